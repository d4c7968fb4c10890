/- the document's reader: batches, signs, envelopes, certs; the document's reader: batches, signs, envelopes, certs; the document's reader: batches, signs, envelop -/
import Derived.Test.YtcbpbkefggekmaaGreatDoorJF0
import Derived.Test.YtcbpbkefggekmaaGreatDoorJF13
import Derived.Test.YtcbpbkefggekmaaGreatDoorJF10
set_option maxHeartbeats 4000000
set_option maxRecDepth 100000
open Go.Proofs.Tryz
namespace Go.Proofs.YtcbpbkefggekmaaGreatDoor
open Go.RowKit
open Sha Tal
set_option linter.unusedVariables false
set_option linter.unusedSimpArgs false
theorem RSt.lt {D:Nat} {w:World} {R:Nat} {rest:List Int} {e:Int} (h:RSt D w R rest e):R<w.heap.size:=by
 obtain⟨zs,p,hR,_⟩:=h
 exact hR.1
theorem RSt.cell2 {D:Nat} {w:World} {R:Nat} {rest:List Int} {e:Int} (h:RSt D w R rest e):w.cell? ⟨R,2,none⟩=some (.int .i64 e):=by
 obtain⟨zs,p,hR,_⟩:=h
 exact hR.2.2.2.1
theorem ziC (c n:Int) (s:ByteArray) (t:List Int) (i:Nat) (hi:i<16) (ht:t.length=16):reqL c n s (t.take (i+1)++List.replicate (16 - (i+1)) (0:Int))=(reqL c n s (t.take i++List.replicate (16 - i) (0:Int))).set (3+i) (.int .u8 (t.getD i 0)):=by
 have e:(t.take i++List.replicate (16 - i) (0:Int)).set i (t.getD i 0)=t.take (i+1)++List.replicate (16 - (i+1)) (0:Int):=by
  have hl:(t.take i).length=i:=by rw[List.length_take];omega
  rw[List.set_append,if_neg (by omega),hl,Nat.sub_self,show 16 - i=(16 - (i+1))+1 by omega,List.replicate_succ,List.set_cons_zero,List.getD_eq_getElem?_getD,List.getElem?_eq_getElem (by omega)]
  simp
  rw[List.take_succ_eq_append_getElem (by omega),List.append_assoc]
  rfl
 rw[←e,show 3+i=i+1+1+1 by omega]
 show _::_::_::v8 _=_::_::_::(v8 _).set i _
 rw[zbL]
theorem zjC (D R:Nat) (rest:List Int) (e:Int) (w:World) (h:RSt D w R rest e):
  Calls prog 158 #[.pointer (some ⟨R,0,none⟩)] w fun en w'=>en=.returned (.agg (rgetL (rgetR rest e)).toArray)∧RSt D w' R (rgetR rest e).rest (rgetR rest e).err∧w.grownBy w' (some R):=by
 have hRw:=RSt.lt h
 obtain⟨G,hG⟩:∃G,Hid (rgetR rest e=G):=⟨_,rfl⟩
 rw[hG.out]
 have k0:=hG.out
 unfold rgetR at k0
 simp only at k0
 clear hG
 have c1:=fun w0 h0=>zbh (B:=D) R rest e 8 w0 h0
 obtain⟨v1,hv1⟩:∃x,Hid ((numS rest e 8).1=x):=⟨_,rfl⟩
 obtain⟨r1,hr1⟩:∃x,Hid ((numS rest e 8).2.1=x):=⟨_,rfl⟩
 obtain⟨e1,he1⟩:∃x,Hid ((numS rest e 8).2.2=x):=⟨_,rfl⟩
 simp only[hv1.out,hr1.out,he1.out]at k0 c1
 have c2:=fun w0 h0=>zbh (B:=D) R r1 e1 1099511627776 w0 h0
 obtain⟨v2,hv2⟩:∃x,Hid ((numS r1 e1 1099511627776).1=x):=⟨_,rfl⟩
 obtain⟨r2,hr2⟩:∃x,Hid ((numS r1 e1 1099511627776).2.1=x):=⟨_,rfl⟩
 obtain⟨e2,he2⟩:∃x,Hid ((numS r1 e1 1099511627776).2.2=x):=⟨_,rfl⟩
 simp only[hv2.out,hr2.out,he2.out]at k0 c2
 have c3:=fun w0 h0=>zfF (B:=D) R r2 e2 64 w0 h0
 obtain⟨v3,hv3⟩:∃x,Hid ((textS r2 e2 64).1=x):=⟨_,rfl⟩
 obtain⟨r3,hr3⟩:∃x,Hid ((textS r2 e2 64).2.1=x):=⟨_,rfl⟩
 obtain⟨e3,he3⟩:∃x,Hid ((textS r2 e2 64).2.2=x):=⟨_,rfl⟩
 simp only[hv3.out,hr3.out,he3.out]at k0 c3
 have f4:=zcM r3 e3
 have c4:=fun w0 h0=>zdJ (B:=D) R r3 e3 16 w0 h0
 obtain⟨v4,hv4⟩:∃x,Hid ((rawS r3 e3 16).1=x):=⟨_,rfl⟩
 obtain⟨r4,hr4⟩:∃x,Hid ((rawS r3 e3 16).2.1=x):=⟨_,rfl⟩
 obtain⟨e4,he4⟩:∃x,Hid ((rawS r3 e3 16).2.2=x):=⟨_,rfl⟩
 simp only[hv4.out,hr4.out,he4.out]at k0 f4 c4
 obtain⟨hv4l,hv4e⟩:=f4
 have G1:Hid (rgetL G=if e4=0 then reqL v1 v2 (strOf v3) v4 else noReq):=hide (by rw[←k0];rfl)
 have G2:Hid (G.rest=r4):=hide (by rw[←k0])
 have G3:Hid (G.err=e4):=hide (by rw[←k0])
 clear k0 hv1 hr1 he1 hv2 hr2 he2 hv3 hr3 he3 hv4 hr4 he4
 generalize strOf v3=sv at *
 have hb1:Below w.heap.size w (w.alloc (.cells noReq.toArray 81)):=(Below.refl _ _).alloc (Nat.le_refl _) _
 have ht1:=zK w noReq.toArray 81
 have hz1:(w.alloc (.cells noReq.toArray 81)).heap.size=w.heap.size+1:=World.size_alloc _ _
 have hb2:Below (w.alloc (.cells noReq.toArray 81)).heap.size (w.alloc (.cells noReq.toArray 81)) ((w.alloc (.cells noReq.toArray 81)).alloc (.cells noReq.toArray 81)):=(Below.refl _ _).alloc (Nat.le_refl _) _
 have ht2:=zK (w.alloc (.cells noReq.toArray 81)) noReq.toArray 81
 have hr2:=zA (w.alloc (.cells noReq.toArray 81)) noReq.toArray 81
 have hz2:((w.alloc (.cells noReq.toArray 81)).alloc (.cells noReq.toArray 81)).heap.size=w.heap.size+2:=by rw[World.size_alloc,hz1]
 rw[hz1]at ht2 hr2
 have hb12:Below w.heap.size w ((w.alloc (.cells noReq.toArray 81)).alloc (.cells noReq.toArray 81)):=hb1.trans (hb2.mono hb1.size)
 have gs0:GS w R noReq ((w.alloc (.cells noReq.toArray 81)).alloc (.cells noReq.toArray 81)):=⟨by simpa using hr2,ht2,zj ht1 hb2 (by omega),zW hb12 _,by omega⟩
 have s0:=h.below hb12
 clear hb1 ht1 hb2 ht2 hr2 hb12 hz1 hz2 h
 go_enter func158,ntmps158
 go_upto_region 2 with fail
 obtain⟨w1,hw1⟩:∃w1,(w.alloc (.cells noReq.toArray 81)).alloc (.cells noReq.toArray 81)=w1:=⟨_,rfl⟩
 rw[hw1]at gs0 s0
 rw[litReq,hw1]
 clear hw1
 try simp only[Act.put]
 have hsz:=gs0.size
 go_wp2_with fail
 refine(c1 w1 s0).mono ?_
 rintro en w2 ⟨rfl,s2,g2⟩
 have gs2:=gs0.gb hRw g2
 clear c1 gs0 s0 g2 hsz
 have hq:w2.cell? ⟨w.heap.size+1,0,none⟩=some (.int .i64 0):=gs2.row 0 _ rfl
 have hf:w2.frozen? ⟨w.heap.size+1,0,none⟩=false:=(gs2.box 0 (by decide)).2
 have gs3:=gs2.set 0 (.int .i64 v1)
 have s3:=s2.gb (zM w2 (w.heap.size+1) 0 (.int .i64 v1)) (.inr (by omega))
 go_wp2_with fail
 obtain⟨w3,hw3⟩:∃w3,w2.setCell ⟨w.heap.size+1,0,none⟩ (.int .i64 v1)=w3:=⟨_,rfl⟩
 rw[hw3]at gs3 s3 ⊢
 clear hw3 gs2 s2 hq hf
 refine(c2 w3 s3).mono ?_
 rintro en w4 ⟨rfl,s4,g4⟩
 have gs4:=gs3.gb hRw g4
 clear c2 gs3 s3 g4
 have hq:w4.cell? ⟨w.heap.size+1,1,none⟩=some (.int .i64 0):=gs4.row 1 _ rfl
 have hf:w4.frozen? ⟨w.heap.size+1,1,none⟩=false:=(gs4.box 1 (by decide)).2
 have gs5:=gs4.set 1 (.int .i64 v2)
 have s5:=s4.gb (zM w4 (w.heap.size+1) 1 (.int .i64 v2)) (.inr (by omega))
 go_wp2_with fail
 obtain⟨w5,hw5⟩:∃w5,w4.setCell ⟨w.heap.size+1,1,none⟩ (.int .i64 v2)=w5:=⟨_,rfl⟩
 rw[hw5]at gs5 s5 ⊢
 clear hw5 gs4 s4 hq hf
 refine(c3 w5 s5).mono ?_
 rintro en w6 ⟨rfl,s6,g6⟩
 have gs6:=gs5.gb hRw g6
 clear c3 gs5 s5 g6
 have hq:w6.cell? ⟨w.heap.size+1,2,none⟩=some (.string ⟨#[]⟩):=gs6.row 2 _ rfl
 have hf:w6.frozen? ⟨w.heap.size+1,2,none⟩=false:=(gs6.box 2 (by decide)).2
 have gs7:GS w R (reqL v1 v2 sv zn) (w6.setCell ⟨w.heap.size+1,2,none⟩ (.string sv)):=gs6.set 2 (.string sv)
 have s7:=s6.gb (zM w6 (w.heap.size+1) 2 (.string sv)) (.inr (by omega))
 go_upto_region 5 with fail
 obtain⟨w7,hw7⟩:∃w7,w6.setCell ⟨w.heap.size+1,2,none⟩ (.string sv)=w7:=⟨_,rfl⟩
 rw[hw7]at gs7 s7 ⊢
 clear hw7 gs6 s6 hq hf
 try simp only[Act.put]
 go_wp2_with fail
 refine(c4 w7 s7).mono ?_
 rintro en w9 ⟨v9,rfl,m9,s9,g9⟩
 have gs9:=gs7.gb hRw g9
 have hA9:∀x,∀a cap,v9=.slice a v4.length cap→a=some x→x.block≠w.heap.size+1:=by
  intro x a cap hv hx
  subst hv hx
  have hs7:=gs7.size
  rcases m9.1.2 with⟨hv,_⟩|⟨g,cp,cur,hv,hg,_⟩
  ·cases hv
  ·injection hv with hv _ _
   injection hv with hv
   subst hv
   show g≠w.heap.size+1
   omega
 obtain⟨a9,cap9,rfl,hc9,hm9,row9⟩:=m9.rowAt (by unfold maxLen;rcases hv4l with q|q<;>(first|omega|(rw[q];decide)))
 have hA9:∀x,a9=some x→x.block≠w.heap.size+1:=fun x hx=>hA9 x a9 cap9 rfl hx
 clear c4 gs7 s7 g9 m9
 have x2:w9.cell? ⟨R,2,none⟩=some (.int .i64 e4):=RSt.cell2 s9
 have hi:=iszN
 have ho:(noReq.toArray.all fun x=>x.oneCell')=true:=all_oneCell_toArray (zbx 0 0 ⟨#[]⟩ zn)
 have hszz:=gs9.size
 by_cases he:e4=0
 ·subst he
  have h16:=hv4e rfl
  have E1:Hid (rgetL G=reqL v1 v2 sv v4):=hide (by rw[G1.out,if_pos rfl])
  clear hv4l hv4e hi ho
  go_wp2_with fail
  go_loopw [5] (fun iv wr=>∃i:Nat,i≤16∧iv=.int .i64 (i:Int)∧GS w R (reqL v1 v2 sv (v4.take i++List.replicate (16 - i) (0:Int))) wr∧RowAt wr a9 v4∧RSt D wr R r4 0) (fun iv _=>16 - (intOf iv).toNat)
  case atStart=>exact⟨0,by omega,rfl,gs9,row9,s9⟩
  case round=>
   obtain⟨i,hi16,rfl,gsr,rowr,sr⟩:=hrel
   by_cases hlt:i<16
   ·obtain⟨b,off,rfl,hb,hcx,hx0,hx1⟩:=rowr.get i (by omega)
    have HT:Hid (reqL v1 v2 sv (v4.take (i+1)++List.replicate (16 - (i+1)) (0:Int))=(reqL v1 v2 sv (v4.take i++List.replicate (16 - i) (0:Int))).set (3+i) (.int .u8 (v4.getD i 0))):=hide (ziC v1 v2 sv v4 i hlt h16)
    have hcell:=gsr.box (3+i) (by omega)
    rw[Nat.zero_add]at hcell
    obtain⟨u,hu⟩:=Option.isSome_iff_exists.1 hcell.1
    have hfz:=hcell.2
    have gsn:=gsr.set (3+i) (.int .u8 (v4.getD i 0))
    have rown:=rowr.gb (zM wr (w.heap.size+1) (3+i) (.int .u8 (v4.getD i 0))) (.inr hA9)
    have sn:=sr.gb (zM wr (w.heap.size+1) (3+i) (.int .u8 (v4.getD i 0))) (.inr (by omega))
    generalize v4.getD i 0=x at *
    have hil:(i:Int)<v4.length:=by omega
    have hil2:(i:Int)<16:=by omega
    go_wp2_with fail
    go_roundw
    case rel=>exact⟨i+1,by omega,by go_num,by rw[HT.out];exact gsn,rown,sn⟩
    case measure=>simp[intOf];omega
   ·obtain rfl:i=16:=by omega
    have HZ:v4.take 16++List.replicate (16 - 16) (0:Int)=v4:=by rw[Nat.sub_self,List.replicate_zero,List.append_nil,List.take_of_length_le (by omega)]
    rw[HZ]at gsr
    clear HZ
    have hiq:(prog.info? 81).map (·.size)=some (reqL v1 v2 sv v4).length:=by rw[zaL _ _ _ _ h16];exact iszR
    have hoq:=all_oneCell_toArray (zbx v1 v2 sv v4)
    have hiq':(prog.info? 81).map (·.size)=some (reqL v1 v2 sv v4).toArray.size:=by rw[List.size_toArray];exact hiq
    obtain⟨q,hq⟩:∃q,Hid (reqL v1 v2 sv v4=q):=⟨_,rfl⟩
    have hql:q.length=19:=by rw[←hq.out];exact zaL _ _ _ _ h16
    rw[hq.out]at E1 hiq hoq hiq'
    have hrow:wr.rangeAt (w.heap.size+1) 0 q:=by rw[←hq.out];exact gsr.row
    have hans:wr.there w.heap.size 0 q.toArray.size:=by have:=gsr.ans;rw[←hql]at this;exact this
    have hrs:=run_loadVar_mid (P:=prog) (wr.setCells w.heap.size 0 q) w.heap.size 0 81 q _ (World.rangeAt_setCells_same wr w.heap.size 0 q (by have:=hans;simpa using this)) underlying81 rfl hiq
    have gf:=zu gsr.grown (ze (B:=w.heap.size) (b:=w.heap.size) (Nat.le_refl _) q 0 _ (Below.refl _ wr)) (Nat.le_refl _)
    have sf:=sr.gb (zL wr w.heap.size q 0) (.inr hRw)
    clear gsr sr rowr
    go_wp2_with (first|refine wpList_load_mid (op:=⟨some 34,.load 81 (.tmp 3),_,_,_,none⟩) rfl 81 _ rfl _ _ rfl q _ hrow underlying81 rfl hiq ?_|refine wpList_store_mid (op:=⟨none,.store 81 (.tmp 2) (.tmp 34),_,_,_,none⟩) rfl 81 _ _ rfl _ _ q.toArray rfl rfl hans hiq' hoq ?_)
    refine bodyPost_ret (v:=.agg q.toArray) ?_ rfl ?_
    ·simp[results,results158,Act.put,asAddr,hrs]
    ·exact⟨by rw[E1.out],by rw[G2.out,G3.out];exact sf,gf⟩
 ·have E1:Hid (rgetL G=noReq):=hide (by rw[G1.out,if_neg he])
  have hans:w9.there w.heap.size 0 noReq.toArray.size:=gs9.ans
  have hi':(prog.info? 81).map (·.size)=some noReq.length:=by simpa using hi
  have hlit:=litReq
  obtain⟨q,hq⟩:∃q,Hid (noReq=q):=⟨_,rfl⟩
  rw[hq.out]at E1 hi ho hans hi' hlit
  have hrs:=run_loadVar_mid (P:=prog) (w9.setCells w.heap.size 0 q) w.heap.size 0 81 q _ (World.rangeAt_setCells_same w9 w.heap.size 0 q (by have:=hans;simpa using this)) underlying81 rfl hi'
  have gf:=zu gs9.grown (ze (B:=w.heap.size) (b:=w.heap.size) (Nat.le_refl _) q 0 _ (Below.refl _ w9)) (Nat.le_refl _)
  have sf:=s9.gb (zL w9 w.heap.size q 0) (.inr hRw)
  clear gs9 s9 hv4l hv4e
  go_wp2_with (refine wpList_store_mid (op:=⟨none,.store 81 (.tmp 2) (.tmp 22),_,_,_,none⟩) rfl 81 _ _ rfl _ _ q.toArray rfl (by rw[←hlit];rfl) hans hi ho ?_)
  refine bodyPost_ret (v:=.agg q.toArray) ?_ rfl ?_
  ·simp[results,results158,Act.put,asAddr,hrs]
  ·exact⟨by rw[E1.out],by rw[G2.out,G3.out];exact sf,gf⟩
structure RL2 (D:Nat) (w:World) (R V:Nat) (rest:List Int) (e:Int) (k:Nat) (v:Value) (W:World):Prop where
 own:W.ownsRow (V+1) 81 19 v k (flatR (getRs k rest e).1)
 st:RSt D W R (getRs k rest e).2.1 (getRs k rest e).2.2
 gb:w.grownBy W (some R)
 res:W.there w.heap.size 0 2
 box:W.rangeAt V 0 [.bool false,v]
 boxT:W.there V 0 2
 size:V+1≤W.heap.size
theorem zfa {w:World} {B k:Nat} {v:Value} {xs u:List Value} (h:w.ownsRow B 81 19 v k xs) (hu:u.length=19) (hone:∀x∈u,x.oneCell'=true) (hB:B≤w.heap.size) (hk:k≤1000):
  ∃g c w',(Builtin.append_ #[37,37] 37 #[v,.slice (some ⟨w.heap.size,0,none⟩) 1 1]).run prog (w.alloc (.cells u.toArray 81))=.ok (.slice (some ⟨g,0,none⟩) (k+1) c) w'∧w'.ownsRow B 81 19 (.slice (some ⟨g,0,none⟩) (k+1) c) (k+1) (xs++u)∧Below B w w':=by
 obtain⟨i1,hi1,hiz,his,hib⟩:=zR infoR
 have hb5:Below w.heap.size w (w.alloc (.cells u.toArray 81)):=(Below.refl _ _).alloc (Nat.le_refl _) _
 have hR5:(w.alloc (.cells u.toArray 81)).rangeAt w.heap.size 0 u:=by simpa using zA w u.toArray 81
 have hsrc:Src prog 19 37 (.slice (some ⟨w.heap.size,0,none⟩) 1 1) 1 u (w.alloc (.cells u.toArray 81)):=
  Src.ofSlice _ underlying37 ⟨w.heap.size,0,none⟩ 1 1 u (by omega) (fun j v hv=>by rw[Addr.add_mid];exact hR5 j v hv) hone
 have hown5:=h.alloc (.cells u.toArray 81)
 obtain⟨v',w',hr,ho,hg⟩:=zcG (P:=prog) _ B 37 37 37 81 i1 (.agg noReq.toArray) 19 48 underlying37 hi1 hiz his hib rfl v k xs hown5 _ 1 u hsrc (by unfold maxLen;omega) (by omega) (Nat.le_trans hB hb5.size)
 obtain⟨g,c,rfl⟩:∃g c,v'=.slice (some ⟨g,0,none⟩) (k+1) c:=by
  rcases ho.2 with⟨_,h0⟩|⟨g,cap,cur,hv,_⟩
  ·omega
  ·exact⟨g,cap,hv⟩
 exact⟨g,c,w',hr,ho,(hb5.mono hB).grown hg (Nat.le_trans hB hb5.size) (fun j hj=>(hown5.lt j hj).1)⟩
theorem zfu {D:Nat} {w w':World} {R B:Nat} {rest:List Int} {e:Int} (h:RSt D w R rest e) (hb:Below B w w') (hR:R<B):RSt D w' R rest e:=by
 have key:∀b,b<B→w'.heap[b]? =w.heap[b]? :=fun b hbb=>hb.block b hbb
 obtain⟨zs,p,⟨h0,⟨a,cap,g1,g2,g3,g4,g5⟩,h2,h3,f0,f1,f2⟩,hd⟩:=h
 have cR:=fun o=>@zO w w' R o (key R hR)
 refine⟨zs,p,⟨Nat.lt_of_lt_of_le h0 hb.size,⟨a,cap,by rw[(cR 0).1];exact g1,g2,g3,⟨g4.1,g4.2.1,?_⟩,g5⟩,by rw[(cR 1).1];exact h2,by rw[(cR 2).1];exact h3,by rw[(cR 0).2];exact f0,by rw[(cR 1).2];exact f1,by rw[(cR 2).2];exact f2⟩,hd⟩
 rcases g4.2.2 with g|⟨b,off,rfl,g6,g7⟩
 ·exact .inl g
 ·have hbR:=(g5 _ rfl).2
  exact .inr ⟨b,off,rfl,Nat.lt_of_lt_of_le g6 hb.size,fun j v hv=>by rw[(@zO w w' b (off+j) (key b (by simp at hbR;omega))).1];exact g7 j v hv⟩
theorem ziM {wb:World} {V:Nat} (hb:wb.there V 0 2) (a:Option Addr) (n c:Nat):(storeVar 37 ⟨V,1,none⟩ (.slice a n c)).run prog wb=.ok () (wb.setCell ⟨V,1,none⟩ (.slice a n c)):=by
 have h1:=hb 1 (by omega)
 rw[Nat.zero_add]at h1
 obtain⟨x,hx⟩:=Option.isSome_iff_exists.1 h1.1
 have hf:=h1.2
 go_simp
theorem World.grownBy_drew1 (w:World):w.grownBy w.drew none:=⟨rfl,rfl,rfl,Nat.le_refl _,fun _ _ _=>rfl⟩
theorem zjI (D R:Nat) (rest:List Int) (e:Int) (w:World) (h:RSt D w R rest e) (hbs:e=0→Bs rest):
  Calls prog 117 #[.pointer (some ⟨R,0,none⟩)] w fun en w'=>∃a cap,en=.returned (batV (getB rest e).q a (getB rest e).rs.length cap)∧(getB rest e).rs.length≤cap∧cap≤maxLen∧ReqsAt w' a (getB rest e).rs∧(∀x,a=some x→w.heap.size≤x.block)∧RSt D w' R (getB rest e).rest (getB rest e).err∧w.grownBy w' (some R):=by
 have hRw:R<w.heap.size:=h.lt
 have cn:=fun w0 h0=>zbh (B:=D) R rest e 5 w0 h0
 have hx1:=zag (most:=5) hbs (by omega)
 obtain⟨j0,hj0⟩:=zbk rest e 5
 have hbs2:(numS rest e 5).2.2=0→Bs (numS rest e 5).2.1:=fun h0=>by rw[hj0];exact(hbs (zbl h0)).sub _
 have hz0:(numS rest e 5).2.2≠0→(numS rest e 5).1=0:=zcT
 obtain⟨G,hG⟩:∃G,Hid (getB rest e=G):=⟨_,hide rfl⟩
 rw[hG.out]
 have hG:=hG.out
 unfold getB at hG
 obtain⟨x1,hx1e⟩:∃x,Hid ((numS rest e 5).1=x):=⟨_,hide rfl⟩
 obtain⟨x2,hx2e⟩:∃x,Hid ((numS rest e 5).2.1=x):=⟨_,hide rfl⟩
 obtain⟨x3,hx3e⟩:∃x,Hid ((numS rest e 5).2.2=x):=⟨_,hide rfl⟩
 simp only[hx1e.out,hx2e.out,hx3e.out]at cn hx1 hbs2 hG hz0
 clear hx1e hx2e hx3e hj0 hbs
 have HG:=hide hG
 clear hG
 have hN:=zK w #[.bool false,.slice none 0 0] 39
 have hB1:Below w.heap.size w (w.alloc (.cells #[.bool false,.slice none 0 0] 39)):=(Below.refl _ _).alloc (Nat.le_refl _) _
 have hg1:w.grownBy (w.alloc (.cells #[.bool false,.slice none 0 0] 39)) (some R):=World.grownBy_alloc w _ _
 have hs1:w.heap.size+1≤(w.alloc (.cells #[.bool false,.slice none 0 0] 39)).heap.size:=by simp
 go_enter func117,ntmps117
 go_upto_region 1 with fail
 go_name_world w1 hw1
 rw[hw1]at hN hB1 hg1 hs1
 clear hw1
 have hN:w1.there w.heap.size 0 2:=hN
 go_wp2_with fail
 refine(cn w1 (h.below hB1)).mono ?_
 rintro en w2 ⟨rfl,h2,hg2⟩
 have hgw2:=zr hg1 hg2
 have hN2:=zJ hN hg2 (by omega) (by omega)
 have hs2:=Nat.le_trans hs1 hg2.size
 have c2:=h2.cell2
 clear cn hN hB1 hg1 hg2 hs1
 by_cases hx3:x3=0
 rotate_left
 ·have hx0:=hz0 hx3
  rw[if_pos hx0,decide_eq_false hx3]at HG
  have b0:(x3==0)=false:=by simpa using hx3
  clear hx3 hz0
  have hN:=hN2
  have hRr:=World.rangeAt_setCells_same w2 w.heap.size 0 [.bool false,.slice none 0 0] hN
  have hg9:w2.grownBy (w2.setCells w.heap.size 0 [.bool false,.slice none 0 0]) (some w.heap.size):=zL w2 w.heap.size _ 0
  have h9:=h2.gb hg9 (.inr hRw)
  have hgw9:=zu hgw2 (ze (Nat.le_refl w.heap.size) [.bool false,.slice none 0 0] 0 w2 (Below.refl w.heap.size w2)) (Nat.le_refl _)
  have hrs:=run_loadVar_mid (P:=prog) (w2.setCells w.heap.size 0 [.bool false,.slice none 0 0]) w.heap.size 0 39 [.bool false,.slice none 0 0] _ hRr underlying39 rfl iszB
  have HF:Hid (∃a cap,Ending.returned (.agg #[.bool false,.slice none 0 0])=.returned (batV G.q a G.rs.length cap)∧G.rs.length≤cap∧cap≤maxLen∧ReqsAt (w2.setCells w.heap.size 0 [.bool false,.slice none 0 0]) a G.rs∧(∀x,a=some x→w.heap.size≤x.block)∧RSt D (w2.setCells w.heap.size 0 [.bool false,.slice none 0 0]) R G.rest G.err∧w.grownBy (w2.setCells w.heap.size 0 [.bool false,.slice none 0 0]) (some R)):=hide (by
   rw[←HG.out]
   exact⟨none,0,rfl,by simp,by unfold maxLen;omega,ReqsAt.none,(fun x hx=>by cases hx),h9,hgw9⟩
  )
  go_upto_region 3 with fail
  try simp only[Act.put]
  refine wp_region_list ?_
  refine wpList_step fun K hK=>?_
  go_simp
  refine hK _ _ ?_
  clear hK K
  refine wpList_store_mid rfl 39 _ _ rfl _ _ #[.bool false,.slice none 0 0] rfl rfl hN iszB (by simp[Value.oneCell']) ?_
  go_wp2
  exact bodyPost_ret (v:=.agg #[.bool false,.slice none 0 0]) (by simp[results,results117,asAddr,hrs,Act.put]) rfl HF.out
 have b0:(x3==0)=true:=by simpa using hx3
 by_cases hx0:x1=0
 ·rw[if_pos hx0,decide_eq_true hx3]at HG
  subst hx0
  clear hx3 hz0
  have hN:=hN2
  have hRr:=World.rangeAt_setCells_same w2 w.heap.size 0 [.bool true,.slice none 0 0] hN
  have hg9:w2.grownBy (w2.setCells w.heap.size 0 [.bool true,.slice none 0 0]) (some w.heap.size):=zL w2 w.heap.size _ 0
  have h9:=h2.gb hg9 (.inr hRw)
  have hgw9:=zu hgw2 (ze (Nat.le_refl w.heap.size) [.bool true,.slice none 0 0] 0 w2 (Below.refl w.heap.size w2)) (Nat.le_refl _)
  have hrs:=run_loadVar_mid (P:=prog) (w2.setCells w.heap.size 0 [.bool true,.slice none 0 0]) w.heap.size 0 39 [.bool true,.slice none 0 0] _ hRr underlying39 rfl iszB
  have HF:Hid (∃a cap,Ending.returned (.agg #[.bool true,.slice none 0 0])=.returned (batV G.q a G.rs.length cap)∧G.rs.length≤cap∧cap≤maxLen∧ReqsAt (w2.setCells w.heap.size 0 [.bool true,.slice none 0 0]) a G.rs∧(∀x,a=some x→w.heap.size≤x.block)∧RSt D (w2.setCells w.heap.size 0 [.bool true,.slice none 0 0]) R G.rest G.err∧w.grownBy (w2.setCells w.heap.size 0 [.bool true,.slice none 0 0]) (some R)):=hide (by
   rw[←HG.out]
   exact⟨none,0,rfl,by simp,by unfold maxLen;omega,ReqsAt.none,(fun x hx=>by cases hx),h9,hgw9⟩
  )
  go_upto_region 5 with fail
  try simp only[Act.put]
  refine wp_region_list ?_
  refine wpList_step fun K hK=>?_
  go_simp
  refine hK _ _ ?_
  clear hK K
  refine wpList_store_mid rfl 39 _ _ rfl _ _ #[.bool true,.slice none 0 0] rfl rfl hN iszB (by simp[Value.oneCell']) ?_
  go_wp2
  exact bodyPost_ret (v:=.agg #[.bool true,.slice none 0 0]) (by simp[results,results117,asAddr,hrs,Act.put]) rfl HF.out
 ·rw[if_neg hx0]at HG
  obtain⟨K,rfl⟩:∃K:Nat,x1=(K:Int)+1:=⟨(x1 - 1).toNat,by omega⟩
  have hK4:K≤4:=by omega
  have b1:(((K:Int)+1)==0)=false:=by simp;omega
  have e3:((K:Int)+1 - 1).toNat=K:=by omega
  rw[e3]at HG
  have HB:=hide hbs2
  clear hx0 hx1 e3 hbs2 hz0 hx3
  have hB3:Below w2.heap.size w2 (w2.alloc (.cells #[.bool false,.slice none 0 0] 39)):=(Below.refl _ _).alloc (Nat.le_refl _) _
  have HL0:Hid (RL2 D w R w2.heap.size x2 x3 0 (.slice none 0 0) (w2.alloc (.cells #[.bool false,.slice none 0 0] 39))):=hide
   ⟨World.ownsRow_nil _ _ _ _,h2.below hB3,zu hgw2 hB3 hgw2.size,zj hN2 hB3 (by omega),zA w2 #[.bool false,.slice none 0 0] 39,zK w2 #[.bool false,.slice none 0 0] 39,by simp⟩
  have hVw:w.heap.size+1≤w2.heap.size:=hs2
  clear h2 hgw2 hN2 hs2 hB3
  go_upto_region 7 with fail
  go_name_world w3 hw3
  rw[show w2.alloc (.cells #[.bool false,.slice none 0 0] 39)=w3 from hw3]at HL0
  clear hw3 c2
  obtain⟨V,hVe⟩:∃V,Hid (w2.heap.size=V):=⟨_,hide rfl⟩
  rw[hVe.out]at HL0 hVw ⊢
  have vset:∀(k:Nat) (u:List Value) (wa wb:World) (v':Value) (W:World) (vv:Value),RL2 D w R V x2 x3 k vv W→RSt D wa R (getRs (k+1) x2 x3).2.1 (getRs (k+1) x2 x3).2.2→W.grownBy wa (some R)→flatR (getRs (k+1) x2 x3).1=flatR (getRs k x2 x3).1++u→wb.ownsRow (V+1) 81 19 v' (k+1) (flatR (getRs k x2 x3).1++u)→Below (V+1) wa wb→RL2 D w R V x2 x3 (k+1) v' (wb.setCell ⟨V,1,none⟩ v'):=fun k u wa wb v' W vv hr sa ga he ob bb=>by
   have hVW:V<W.heap.size:=hr.size
   have e1:=zd (zaM hr.box ga hVW (by omega)) bb (by omega)
   have e2:=zad e1 1 v'
   rw[Nat.zero_add]at e2
   have hgs:wb.grownBy (wb.setCell ⟨V,1,none⟩ v') (some V):=zM wb V 1 v'
   refine⟨?_,?_,?_,zT (zj (zJ hr.res ga (by omega) (by omega)) bb (by omega)) _ _,e2,zT (zj (zJ hr.boxT ga hVW (by omega)) bb (by omega)) _ _,by rw[World.size_setCell];exact Nat.le_trans (Nat.le_trans hr.size ga.size) bb.size⟩
   ·rw[he]
    exact zch ob hgs (fun g hh=>by cases hh;omega)
   ·exact(zfu sa bb (by omega)).gb hgs (.inr (by omega))
   ·exact zu (zr hr.gb ga) ((bb.mono (show w.heap.size≤V+1 by omega)).setCell (p:=⟨V,1,none⟩) (by show w.heap.size≤V;omega) v') (Nat.le_refl _)
  have HVS:=hide vset
  clear vset
  go_wp2
  go_loopw [5] (fun iv wr=>∃(k:Nat),k≤K∧iv=.int .i64 ((k:Int)+1)∧Hid (∃v,RL2 D w R V x2 x3 k v wr)) (fun iv _=>K+1 - (intOf iv).toNat)
  case atStart=>exact⟨0,by omega,rfl,hide ⟨_,HL0.out⟩⟩
  case round=>
   clear HL0
   obtain⟨k,hk,rfl,HL⟩:=hrel
   obtain⟨v,hL⟩:=HL.out
   clear HL
   by_cases hlt:k<K
   ·have k1:(k:Int)+1<(K:Int)+1:=by omega
    obtain⟨⟨j,hj⟩,hje⟩:=zc4 k x2 x3
    have hok:=zdG (rest:=(getRs k x2 x3).2.1) (e:=(getRs k x2 x3).2.2) (fun h0=>by rw[hj];exact(HB.out (hje h0)).sub _)
    have cg:=fun w0 h0=>zjC D R (getRs k x2 x3).2.1 (getRs k x2 x3).2.2 w0 h0
    simp only[zfx]at cg
    have HS:Hid (flatR (getRs (k+1) x2 x3).1=flatR (getRs k x2 x3).1++(rqOf (rgetR (getRs k x2 x3).2.1 (getRs k x2 x3).2.2)).cells):=hide (by
     show flatR ((getRs k x2 x3).1++[rqOf (rgetR (getRs k x2 x3).2.1 (getRs k x2 x3).2.2)])=_
     rw[zg0]
     simp[flatR])
    have HT:Hid ((getRs (k+1) x2 x3).2=((rgetR (getRs k x2 x3).2.1 (getRs k x2 x3).2.2).rest,(rgetR (getRs k x2 x3).2.1 (getRs k x2 x3).2.2).err)):=hide rfl
    obtain⟨g,hg⟩:∃g,Hid (rgetR (getRs k x2 x3).2.1 (getRs k x2 x3).2.2=g):=⟨_,hide rfl⟩
    rw[hg.out]at hok HS HT
    simp only[hg.out]at cg
    obtain⟨r,hr⟩:∃r,Hid (rqOf g=r):=⟨_,hide rfl⟩
    rw[hr.out]at hok HS
    simp only[hr.out]at cg
    have hul:=hok.length
    have hone:=r.one
    obtain⟨u,hu⟩:∃u,Hid (r.cells=u):=⟨_,hide rfl⟩
    rw[hu.out]at HS hul hone
    simp only[hu.out]at cg
    have hfold:=zc5 #[.int .i64 0,.int .i64 0,.string ⟨#[]⟩,.int .u8 0,.int .u8 0,.int .u8 0,.int .u8 0,.int .u8 0,.int .u8 0,.int .u8 0,.int .u8 0,.int .u8 0,.int .u8 0,.int .u8 0,.int .u8 0,.int .u8 0,.int .u8 0,.int .u8 0,.int .u8 0] u (by rw[hul];rfl)
    clear hg hr hu hok hj hje
    go_upto_region 10 with fail
    obtain⟨w5,hw5⟩:∃w5,wr.drew=w5:=⟨_,rfl⟩
    have hd:Below wr.heap.size wr wr.drew:=(Below.refl _ _).drew
    have hL5:RL2 D w R V x2 x3 k v w5:=by
     rw[←hw5]
     exact⟨zch hL.own (row:=none) (World.grownBy_drew1 wr) (fun g hh=>by cases hh),hL.st.below hd,zu hL.gb hd hL.gb.size,zj hL.res hd (by have:=hL.size;omega),zd hL.box hd (by have:=hL.size;omega),zj hL.boxT hd (by have:=hL.size;omega),Nat.le_trans hL.size hd.size⟩
    have vc5:w5.cell? ⟨V,1,none⟩=some v:=hL5.box 1 _ rfl
    have own5:=hL5.own
    have boxT5:=hL5.boxT
    have hs5:=hL5.size
    have hV5:V<w5.heap.size:=hs5
    have cg5:=cg w5 hL5.st
    have vset:∀(wa wb:World) (v':Value),RSt D wa R g.rest g.err→w5.grownBy wa (some R)→wb.ownsRow (V+1) 81 19 v' (k+1) (flatR (getRs k x2 x3).1++u)→Below (V+1) wa wb→Hid (∃v,RL2 D w R V x2 x3 (k+1) v (wb.setCell ⟨V,1,none⟩ v')):=fun wa wb v' sa ga ob bb=>hide ⟨v',HVS.out k u wa wb v' w5 v hL5 (by rw[HT.out];exact sa) ga HS.out ob bb⟩
    have vst:∀(wb:World),wb.there V 0 2→∀a n c,(storeVar 37 ⟨V,1,none⟩ (.slice a n c)).run prog wb=.ok () (wb.setCell ⟨V,1,none⟩ (.slice a n c)):=fun wb hb a n c=>ziM hb a n c
    clear hL HS HT HVS cg
    refine zC (S:=(fun _:World=>True)) 8 rfl (by kernel_rfl) ?_
    rw[hw5]
    clear hw5 hd
    have hS:(fun _:World=>True) w5:=trivial
    refine hs_a 0 22 hS ?_
    refine hs_a 2 24 hS ?_
    refine zgO (i:=1) (j:=3) (by kernel_rfl) ?_ ?_
    ·have hS:(fun _:World=>True) w5:=trivial
     refine zbO (i:=1) (d:=some 23) (v:=v) (w':=w5) rfl (by rfl) (by have hc:=vc5;go_simp) rfl hS ?_
     simp only[nz]
     refine hs_c 3 25 ?_
     refine(cg5).mono ?_
     rintro e' w6 ⟨rfl,s6,g6⟩
     have hS:(fun _:World=>True) w6:=trivial
     refine⟨_,rfl,hS,?_⟩
     simp only[nz]
     have hc6:=(zcI (o:=1) g6 hV5 (by omega)).trans vc5
     obtain⟨g',c',w7,hr5,own7,b7⟩:=zfa (zch own5 g6 (fun g hh=>by cases hh;omega)) hul hone (Nat.le_trans hs5 g6.size) (by omega)
     have hS:(fun _:World=>True) (w6.alloc (.cells u.toArray 81)):=trivial
     refine zat (i:=4) (d:=some 26) (v:=.slice (some ⟨w6.heap.size,0,none⟩) 1 1) (w':=(w6.alloc (.cells u.toArray 81))) rfl (by kernel_rfl) (by rfl) (by go_simp;try with_reducible rfl) rfl hS ?_
     simp only[nz]
     have hS:(fun _:World=>True) w7:=trivial
     refine zat (i:=5) (d:=some 27) (v:=(.slice (some ⟨g',0,none⟩) (k+1) c')) (w':=w7) rfl (by kernel_rfl) (by rfl) (zb1 rfl rfl rfl hr5) rfl hS ?_
     simp only[nz]
     refine hs_a 6 28 hS ?_
     have hw8:=vset w6 w7 _ s6 g6 own7 b7
     have hst:=vst w7 (zj (zJ boxT5 g6 hV5 (by omega)) b7 (by omega))
     refine zS (i:=7) (w':=(w7.setCell ⟨V,1,none⟩ (.slice (some ⟨g',0,none⟩) (k+1) c'))) rfl (by kernel_rfl) (by rfl) (za3 rfl rfl rfl (hst _ _ _)) rfl trivial ?_
     refine zv (by kernel_rfl) ?_
     go_wp2
     go_roundw
     case rel=>exact⟨k+1,by omega,by go_num,hw8⟩
     case measure=>simp[intOf];omega
    ·refine zfb (i:=3) (d:=some 25) rfl (by rfl) (by go_simp;first|done|exact⟨rfl,rfl⟩|with_reducible rfl) rfl ?_
     refine(cg5).mono ?_
     rintro e' w6 ⟨rfl,s6,g6⟩
     have hS:(fun _:World=>True) w6:=trivial
     refine⟨_,rfl,hS,?_⟩
     simp only[nz]
     have hc6:=(zcI (o:=1) g6 hV5 (by omega)).trans vc5
     obtain⟨g',c',w7,hr5,own7,b7⟩:=zfa (zch own5 g6 (fun g hh=>by cases hh;omega)) hul hone (Nat.le_trans hs5 g6.size) (by omega)
     refine zgO (i:=1) (j:=4) (by kernel_rfl) ?_ ?_
     ·have hS:(fun _:World=>True) w6:=trivial
      refine zbO (i:=1) (d:=some 23) (v:=v) (w':=w6) rfl (by rfl) (by have hc:=hc6;go_simp) rfl hS ?_
      simp only[nz]
      have hS:(fun _:World=>True) (w6.alloc (.cells u.toArray 81)):=trivial
      refine zat (i:=4) (d:=some 26) (v:=.slice (some ⟨w6.heap.size,0,none⟩) 1 1) (w':=(w6.alloc (.cells u.toArray 81))) rfl (by kernel_rfl) (by rfl) (by go_simp;try with_reducible rfl) rfl hS ?_
      simp only[nz]
      have hS:(fun _:World=>True) w7:=trivial
      refine zat (i:=5) (d:=some 27) (v:=(.slice (some ⟨g',0,none⟩) (k+1) c')) (w':=w7) rfl (by kernel_rfl) (by rfl) (zb1 rfl rfl rfl hr5) rfl hS ?_
      simp only[nz]
      refine hs_a 6 28 hS ?_
      have hw8:=vset w6 w7 _ s6 g6 own7 b7
      have hst:=vst w7 (zj (zJ boxT5 g6 hV5 (by omega)) b7 (by omega))
      refine zS (i:=7) (w':=(w7.setCell ⟨V,1,none⟩ (.slice (some ⟨g',0,none⟩) (k+1) c'))) rfl (by kernel_rfl) (by rfl) (za3 rfl rfl rfl (hst _ _ _)) rfl trivial ?_
      refine zv (by kernel_rfl) ?_
      go_wp2
      go_roundw
      case rel=>exact⟨k+1,by omega,by go_num,hw8⟩
      case measure=>simp[intOf];omega
     ·have hS:(fun _:World=>True) (w6.alloc (.cells u.toArray 81)):=trivial
      refine zbO (i:=4) (d:=some 26) (v:=.slice (some ⟨w6.heap.size,0,none⟩) 1 1) (w':=(w6.alloc (.cells u.toArray 81))) rfl (by rfl) (by go_simp;try with_reducible rfl) rfl hS ?_
      simp only[nz]
      have hc7:(w6.alloc (.cells u.toArray 81)).cell? ⟨V,1,none⟩=some v:=(((Below.refl w6.heap.size w6).alloc (Nat.le_refl _) _).cell (p:=⟨V,1,none⟩) (Nat.lt_of_lt_of_le hV5 g6.size)).trans hc6
      have hS:(fun _:World=>True) (w6.alloc (.cells u.toArray 81)):=trivial
      refine zat (i:=1) (d:=some 23) (v:=v) (w':=(w6.alloc (.cells u.toArray 81))) rfl (by kernel_rfl) (by rfl) (by have hc:=hc7;go_simp) rfl hS ?_
      simp only[nz]
      have hS:(fun _:World=>True) w7:=trivial
      refine zat (i:=5) (d:=some 27) (v:=(.slice (some ⟨g',0,none⟩) (k+1) c')) (w':=w7) rfl (by kernel_rfl) (by rfl) (zb1 rfl rfl rfl hr5) rfl hS ?_
      simp only[nz]
      refine hs_a 6 28 hS ?_
      have hw8:=vset w6 w7 _ s6 g6 own7 b7
      have hst:=vst w7 (zj (zJ boxT5 g6 hV5 (by omega)) b7 (by omega))
      refine zS (i:=7) (w':=(w7.setCell ⟨V,1,none⟩ (.slice (some ⟨g',0,none⟩) (k+1) c'))) rfl (by kernel_rfl) (by rfl) (za3 rfl rfl rfl (hst _ _ _)) rfl trivial ?_
      refine zv (by kernel_rfl) ?_
      go_wp2
      go_roundw
      case rel=>exact⟨k+1,by omega,by go_num,hw8⟩
      case measure=>simp[intOf];omega
   ·obtain rfl:k=K:=by omega
    have k1:¬(k:Int)+1<(k:Int)+1:=by omega
    have HA:=hide (zgR (rest:=x2) (e:=x3) HB.out k)
    have HLen:=hide (zgS k x2 x3)
    have hown:=hL.own
    obtain⟨aa,capp,rfl,hc1,hc2,hrow,hlo⟩:=zf1 (rs:=(getRs k x2 x3).1) (by rw[HLen.out];exact hown) HA.out (by rw[HLen.out];unfold maxLen;omega)
    rw[HLen.out]at hc1
    have hbx:=hL.box
    rw[HLen.out]at hbx
    have c2:=hL.st.cell2
    have hst:=hL.st
    have hgb:=hL.gb
    have hres:=hL.res
    clear hL hown HVS
    obtain⟨er,her⟩:∃er,Hid ((getRs k x2 x3).2.2=er):=⟨_,hide rfl⟩
    rw[her.out]at c2 hst HG
    by_cases he:er=0
    ·have b2:(er==0)=true:=by simpa using he
     rw[if_pos he]at HG
     have hN:=hres
     have hRr:=World.rangeAt_setCells_same wr w.heap.size 0 [.bool false,.slice aa k capp] hN
     have hg9:wr.grownBy (wr.setCells w.heap.size 0 [.bool false,.slice aa k capp]) (some w.heap.size):=zL wr w.heap.size _ 0
     have h9:=hst.gb hg9 (.inr hRw)
     have hgw9:=zu hgb (ze (Nat.le_refl w.heap.size) [.bool false,.slice aa k capp] 0 wr (Below.refl w.heap.size wr)) (Nat.le_refl _)
     have hrs:=run_loadVar_mid (P:=prog) (wr.setCells w.heap.size 0 [.bool false,.slice aa k capp]) w.heap.size 0 39 [.bool false,.slice aa k capp] _ hRr underlying39 rfl iszB
     have HF:Hid (∃a cap,Ending.returned (.agg #[.bool false,.slice aa k capp])=.returned (batV G.q a G.rs.length cap)∧G.rs.length≤cap∧cap≤maxLen∧ReqsAt (wr.setCells w.heap.size 0 [.bool false,.slice aa k capp]) a G.rs∧(∀x,a=some x→w.heap.size≤x.block)∧RSt D (wr.setCells w.heap.size 0 [.bool false,.slice aa k capp]) R G.rest G.err∧w.grownBy (wr.setCells w.heap.size 0 [.bool false,.slice aa k capp]) (some R)):=hide (by
      rw[←HG.out]
      refine⟨aa,capp,?_,?_,hc2,hrow.gb1 hg9 (fun x hx=>by have:=hlo x hx;omega),fun x hx=>by have:=hlo x hx;omega,h9,hgw9⟩
      ·simp only[HLen.out];rfl
      ·simp only[HLen.out];exact hc1
     )
     go_upto_region 13 with fail
     try simp only[Act.put]
     refine wp_region_list ?_
     refine wpList_load_mid rfl 39 _ rfl _ _ rfl [.bool false,.slice aa k capp] _ hbx underlying39 rfl iszB ?_
     refine wpList_store_mid rfl 39 _ _ rfl _ _ #[.bool false,.slice aa k capp] rfl rfl hN iszB (by simp[Value.oneCell']) ?_
     go_wp2
     exact bodyPost_ret (v:=.agg #[.bool false,.slice aa k capp]) (by simp[results,results117,asAddr,hrs]) rfl HF.out
    ·have b2:(er==0)=false:=by simpa using he
     rw[if_neg he]at HG
     have hN:=hres
     have hRr:=World.rangeAt_setCells_same wr w.heap.size 0 [.bool false,.slice none 0 0] hN
     have hg9:wr.grownBy (wr.setCells w.heap.size 0 [.bool false,.slice none 0 0]) (some w.heap.size):=zL wr w.heap.size _ 0
     have h9:=hst.gb hg9 (.inr hRw)
     have hgw9:=zu hgb (ze (Nat.le_refl w.heap.size) [.bool false,.slice none 0 0] 0 wr (Below.refl w.heap.size wr)) (Nat.le_refl _)
     have hrs:=run_loadVar_mid (P:=prog) (wr.setCells w.heap.size 0 [.bool false,.slice none 0 0]) w.heap.size 0 39 [.bool false,.slice none 0 0] _ hRr underlying39 rfl iszB
     have HF:Hid (∃a cap,Ending.returned (.agg #[.bool false,.slice none 0 0])=.returned (batV G.q a G.rs.length cap)∧G.rs.length≤cap∧cap≤maxLen∧ReqsAt (wr.setCells w.heap.size 0 [.bool false,.slice none 0 0]) a G.rs∧(∀x,a=some x→w.heap.size≤x.block)∧RSt D (wr.setCells w.heap.size 0 [.bool false,.slice none 0 0]) R G.rest G.err∧w.grownBy (wr.setCells w.heap.size 0 [.bool false,.slice none 0 0]) (some R)):=hide (by
      rw[←HG.out]
      exact⟨none,0,rfl,by simp,by unfold maxLen;omega,ReqsAt.none,(fun x hx=>by cases hx),h9,hgw9⟩
     )
     go_upto_region 12 with fail
     try simp only[Act.put]
     refine wp_region_list ?_
     refine wpList_step fun K hK=>?_
     go_simp
     refine hK _ _ ?_
     clear hK K
     refine wpList_store_mid rfl 39 _ _ rfl _ _ #[.bool false,.slice none 0 0] rfl rfl hN iszB (by simp[Value.oneCell']) ?_
     go_wp2
     exact bodyPost_ret (v:=.agg #[.bool false,.slice none 0 0]) (by simp[results,results117,asAddr,hrs]) rfl HF.out
abbrev Xst:=List Int ×Int
structure XR (w:World) (D X:Nat) (s:Xst):Prop where
 st:RSt D w X s.1 s.2
 lx:X<w.heap.size
 ld:D≤X
theorem RSt.bs {D X:Nat} {w:World} {rest:List Int} {e:Int} (h:RSt D w X rest e):e=0→Bs rest:=fun he=>by
 obtain⟨zs,p,⟨_,⟨a,cap,_,_,_,hr,_⟩,_⟩,h2⟩:=h
 rw[←h2 he]
 exact Bs.sub (fun z hz=>hr.2.1 z hz) _
theorem XR.gb {w w':World} {D X:Nat} {s s':Xst} (h:XR w D X s) (hg:w.grownBy w' (some X)) (hs:RSt D w' X s'.1 s'.2):XR w' D X s':=⟨hs,Nat.lt_of_lt_of_le h.lx hg.size,h.ld⟩
theorem XR.low {w w':World} {D X n:Nat} {s:Xst} (h:XR w D X s) (hb:Below n w w') (hX:X<n):XR w' D X s:=⟨zfu h.st hb hX,Nat.lt_of_lt_of_le h.lx hb.size,h.ld⟩
theorem XR.below {w w':World} {D X:Nat} {s:Xst} (h:XR w D X s) (hb:Below w.heap.size w w'):XR w' D X s:=h.low hb h.lx
def xnuS (most:Int) (s:Xst):Int ×Xst:=numS s.1 s.2 most
def xdgS (s:Xst):List Int ×Xst:=(padN 32 (rawS s.1 s.2 32).1,(rawS s.1 s.2 32).2)
def xtgS (s:Xst):List Int ×Xst:=(padN 16 (rawS s.1 s.2 16).1,(rawS s.1 s.2 16).2)
def xtxS (most:Int) (s:Xst):ByteArray ×Xst:=(strOf (textS s.1 s.2 most).1,(textS s.1 s.2 most).2)
def xsiS (s:Xst):Sg ×Xst:=(⟨(xnuS 64 s).1,(xtgS (xnuS 64 s).2).1⟩,(xtgS (xnuS 64 s).2).2)
def xenS (s:Xst):Ev ×Xst:=(⟨(xnuS 64 s).1,(xtxS 4194304 (xnuS 64 s).2).1,(xtgS (xtxS 4194304 (xnuS 64 s).2).2).1⟩,(xtgS (xtxS 4194304 (xnuS 64 s).2).2).2)
def xvoS (s:Xst):Vt ×Xst:=xvtS s.1 s.2
def xbaS (s:Xst):(Bool ×List Rq) ×Xst:=(((getB s.1 s.2).q,(getB s.1 s.2).rs.map BRq.un),(getB s.1 s.2).rest,(getB s.1 s.2).err)
def xitG {α:Type} (one:Xst→α ×Xst) (s:Xst):Nat→List α ×Xst
  |0=>([],s)
  |k+1=>if(xitG one s k).2.2=0 then((xitG one s k).1++[(one (xitG one s k).2).1],(one (xitG one s k).2).2)else xitG one s k
theorem zdf {α:Type} {one:Xst→α ×Xst} {s:Xst} {k:Nat} (h:(xitG one s k).2.2≠0):∀n,k≤n→xitG one s n=xitG one s k:=by
  intro n hn
  induction n with
  | zero => obtain rfl : k = 0 := by omega
            rfl
  |succ n ih=>
    by_cases e:k=n+1
    · rw[e]
    · have:=ih (by omega)
      show(if(xitG one s n).2.2=0 then _ else xitG one s n)=_
      rw[this,if_neg h]
theorem za7 {α:Type} (one:Xst→α ×Xst) (s:Xst) (k:Nat):(xitG one s k).1.length≤k:=by
  induction k with
  |zero=>exact Nat.le_refl _
  |succ k ih=>
    show(if(xitG one s k).2.2=0 then((xitG one s k).1++[(one (xitG one s k).2).1],(one (xitG one s k).2).2)else xitG one s k).1.length≤_
    split
    · simp only[List.length_append,List.length_cons,List.length_nil];omega
    · omega
def xlsS {α:Type} (most:Int) (one:Xst→α ×Xst) (s:Xst):List α ×Xst:=xitG one (xnuS most s).2 (xnuS most s).1.toNat
theorem xnumS (D X:Nat) (most:Int) (s:Xst) (w:World) (h:XR w D X s):Calls prog 44 #[.pointer (some ⟨X,0,none⟩),.int .i64 most] w fun en w'=>en=.returned (.int .i64 (xnuS most s).1)∧XR w' D X (xnuS most s).2∧w.grownBy w' (some X):=
 (zbh (B:=D) X s.1 s.2 most w h.st).mono (by rintro _ w1 ⟨rfl,h1,h2⟩;exact⟨rfl,h.gb h2 h1,h2⟩)
theorem xtagS (D X:Nat) (s:Xst) (w:World) (h:XR w D X s):Calls prog 159 #[.pointer (some ⟨X,0,none⟩)] w fun en w'=>en=.returned (.agg (v8 (xtgS s).1).toArray)∧XR w' D X (xtgS s).2∧w.grownBy w' (some X):=
 (zhG D X s.1 s.2 w h.st h.lx h.ld).mono (by rintro _ w1 ⟨rfl,h1,h2⟩;exact⟨rfl,h.gb h2 h1,h2⟩)
theorem xdigS (D X:Nat) (s:Xst) (w:World) (h:XR w D X s):Calls prog 121 #[.pointer (some ⟨X,0,none⟩)] w fun en w'=>en=.returned (.agg (v8 (xdgS s).1).toArray)∧XR w' D X (xdgS s).2∧w.grownBy w' (some X):=
 (zeF D X s.1 s.2 w h.st h.lx h.ld).mono (by rintro _ w1 ⟨rfl,h1,h2⟩;exact⟨rfl,h.gb h2 h1,h2⟩)
theorem xtextS (D X:Nat) (most:Int) (s:Xst) (w:World) (h:XR w D X s):Calls prog 45 #[.pointer (some ⟨X,0,none⟩),.int .i64 most] w fun en w'=>en=.returned (.string (xtxS most s).1)∧XR w' D X (xtxS most s).2∧w.grownBy w' (some X):=
 (zfF (B:=D) X s.1 s.2 most w h.st).mono (by rintro _ w1 ⟨rfl,h1,h2⟩;exact⟨rfl,h.gb h2 h1,h2⟩)
theorem xvoteS (D X:Nat) (s:Xst) (w:World) (h:XR w D X s):Calls prog 118 #[.pointer (some ⟨X,0,none⟩)] w fun en w'=>en=.returned (.agg (xvoS s).1.cells.toArray)∧XR w' D X (xvoS s).2∧w.grownBy w' (some X):=
 (zhL D X s.1 s.2 w h.st h.lx h.ld).mono (by rintro _ w1 ⟨rfl,h1,h2⟩;exact⟨rfl,h.gb h2 h1,h2⟩)
theorem xbatS (D X:Nat) (s:Xst) (w:World) (h:XR w D X s):Calls prog 117 #[.pointer (some ⟨X,0,none⟩)] w fun en w'=>∃x:Sl Rq,en=.returned (.agg #[.bool (xbaS s).1.1,x.val])∧x.xs=(xbaS s).1.2∧x.At RqE w'∧x.Bk (fun b=>w.heap.size≤b∧b<w'.heap.size)∧XR w' D X (xbaS s).2∧w.grownBy w' (some X):=
 (zjI D X s.1 s.2 w h.st h.st.bs).mono (by
  rintro _ w1 ⟨a,cap,rfl,h1,h2,h3,h4,h5,h6⟩
  have e:(getB s.1 s.2).rs.length=((getB s.1 s.2).rs.map BRq.un).length:=(List.length_map ..).symm
  refine⟨⟨a,cap,_⟩,?_,rfl,zfy h3,?_,h.gb h6 h5,h6⟩
  ·show _=Ending.returned (.agg #[_,.slice a ((getB s.1 s.2).rs.map BRq.un).length cap])
   rw[←e];rfl
  ·intro b hne hb
   refine⟨h4 b hb,?_⟩
   rcases h3.2.2 with q|⟨c,off,e1,h7,_⟩
   ·exact absurd (by show((getB s.1 s.2).rs.map BRq.un)=[];rw[q];rfl) hne
   ·have hb:a=some b:=hb
    rw[hb]at e1
    injection e1 with e1
    rw[e1]
    exact h7)
theorem zhH (s:Xst) (hb:s.2=0→Bs s.1):SgE.ok (xsiS s).1:=zfj (s.1,s.2,false) hb
theorem zh1 (s:Xst) (hb:s.2=0→Bs s.1):EvE.ok (xenS s).1:=zha (s.1,s.2,false) hb
theorem zeC (s:Xst) (hb:s.2=0→Bs s.1):(xvoS s).1.ok:=by
 have b0:=zaJ (most:=2) hb
 have hk:kdE s.1 s.2 2=0→Bs (numS s.1 s.2 2).2.1:=fun h=>by
  refine b0 ?_
  unfold kdE at h
  by_cases q:((numS s.1 s.2 2).2.2==0)=true
  ·simpa using q
  ·rw[if_neg q]at h;exact h
 have b2:=zaJ (most:=1048576) hk
 have b3:=zaJ (most:=1099511627776) b2
 have b4:=zaJ (most:=1099511627776) b3
 have h1:=(zag (most:=2) hb (by omega)).2
 have h2:=(zag (most:=1048576) hk (by omega)).2
 have h3:=(zag (most:=1099511627776) b2 (by omega)).2
 have h4:=(zag (most:=1099511627776) b3 (by omega)).2
 exact⟨Int.le_trans h1 (by decide),Int.le_trans h2 (by decide),Int.le_trans h3 (by decide),Int.le_trans h4 (by decide),zaf _ _,zbW (zby b4)⟩
structure XL {α:Type} (w:World) (D X:Nat) (E:El α) (Te:TypeId) (one:Xst→α ×Xst) (t:Xst) (k:Nat) (v:Value) (W:World):Prop where
 own:W.ownsRow w.heap.size Te E.k v (xitG one t k).1.length ((xitG one t k).1.flatMap E.f)
 rs:XR W D X (xitG one t k).2
 gr:w.grownBy W (some X)
 ok:∀y∈(xitG one t k).1,E.ok y
theorem xlistE (D X:Nat) (s:Xst) (w:World) (h:XR w D X s):Calls prog 120 #[.pointer (some ⟨X,0,none⟩)] w fun en w'=>∃x:Sl Ev,en=.returned x.val∧x.xs=(xlsS 64 xenS s).1∧x.At EvE w'∧x.Bk (fun b=>w.heap.size≤b∧b<w'.heap.size)∧XR w' D X (xlsS 64 xenS s).2∧w.grownBy w' (some X):=by
  obtain⟨i1,hi1,hiz,his,hib⟩:=zR infoEv
  have hzk:=zew
  have hXw:=h.lx
  have cn:=fun w0 h0=>xnumS D X 64 s w0 h0
  have hx1:0≤(xnuS 64 s).1∧(xnuS 64 s).1≤64:=zag (most:=64) h.st.bs (by omega)
  unfold xlsS
  generalize xnuS 64 s=p_ at hx1 cn ⊢
  obtain⟨n,t⟩:=p_
  simp only at hx1 cn ⊢
  obtain⟨N,rfl⟩:∃N:Nat,n=(N:Int):=⟨n.toNat,by omega⟩
  have hN:N≤64:=by omega
  rw[Int.toNat_natCast]
  clear hx1
  go_enter func120,ntmps120
  go_upto_region 1 with fail
  refine pl_b ?_
  refine pl_a 8 ?_
  refine pl_c 9 ?_
  refine(cn w h).mono ?_
  rintro _ w2 ⟨rfl,S2,g2⟩
  refine⟨_,rfl,?_⟩
  simp only[nz]
  refine pl_a 3 ?_
  refine za ?_
  clear cn
  have HL0:Hid (XL w D X EvE 25 xenS t 0 (.slice none 0 0) w2):=hide ⟨World.ownsRow_nil _ _ _ _,S2,g2,fun y hy=>by cases hy⟩
  clear S2 g2 h
  go_wp2_with fail
  go_loopw [4,5] (fun ov iv wr=>∃k:Nat,k≤N∧iv=.int .i64 (k:Int)∧Hid (XL w D X EvE 25 xenS t k ov wr)) (fun _ iv _=>N - (intOf iv).toNat)
  case atStart=>exact⟨0,by omega,rfl,HL0⟩
  case round=>
    clear HL0
    obtain⟨k,hk,rfl,HL⟩:=hrel
    have HL:=HL.out
    have FIN:k=N∨(xitG xenS t k).2.2≠0→∃y:Sl Ev,u4=y.val∧y.xs=(xitG xenS t N).1∧y.At EvE wr∧y.Bk (fun b=>w.heap.size≤b∧b<wr.heap.size)∧XR wr D X (xitG xenS t N).2∧w.grownBy wr (some X):=fun hh=>by
      have e:xitG xenS t N=xitG xenS t k:=by
        rcases hh with g|g
        · rw[g]
        · exact zdf g N hk
      rw[e]
      obtain⟨x,h1,h2,h3,h4⟩:=zbj (E:=EvE) (ys:=(xitG xenS t k).1) HL.own HL.ok (by have:=za7 xenS t k;unfold maxLen;omega)
      exact⟨x,h1,h2,h3,fun b _ hb=>⟨(h4 b hb).1,(h4 b hb).2.1⟩,HL.rs,HL.gr⟩
    have hce:=HL.rs.st.err
    by_cases hlt:k<N
    · have k1:(k:Int)<N:=by omega
      by_cases he:(xitG xenS t k).2.2=0
      · have hst : xitG xenS t (k + 1) = ((xitG xenS t k).1 ++ [(xenS (xitG xenS t k).2).1], (xenS (xitG xenS t k).2).2) := by
          show(if(xitG xenS t k).2.2=0 then _ else _)=_
          rw[if_pos he]
        have hok:=zh1 (xitG xenS t k).2 HL.rs.st.bs
        have hlen:=za7 xenS t k
        have HR:=HL.rs
        have HO:=HL.own
        have HG:=HL.gr
        have HK:=HL.ok
        clear HL FIN
        obtain⟨ee,hee⟩:∃x,(xitG xenS t k).2.2=x:=⟨_,rfl⟩
        rw[hee]at hce he
        subst he
        clear hee
        have hee:True:=trivial
        go_upto_region 4 with fail
        refine pl_b ?_
        refine pl_a 10 ?_
        refine pl_a 11 ?_
        refine pl_v 12 (.bool true) (by go_simp<;>(try simp)<;>(try omega)) ?_
        refine pl_a 13 ?_
        refine pl_a 14 ?_
        refine pl_a 15 ?_
        refine pl_a 16 ?_
        refine pl_v 17 (.int .i64 0) (zg rfl rfl hce underlying3 rfl) ?_
        refine pl_v 18 (.bool true) (by go_simp<;>(try simp)) ?_
        refine pl_a 19 ?_
        refine za ?_
        have cA:=fun w0 h0=>xnumS D X 64 (xitG xenS t k).2 w0 h0
        have cX:=fun w0 h0=>xtextS D X 4194304 (xnuS 64 (xitG xenS t k).2).2 w0 h0
        have cT:=fun w0 h0=>xtagS D X (xtxS 4194304 (xnuS 64 (xitG xenS t k).2).2).2 w0 h0
        have hul:(EvE.f (xenS (xitG xenS t k).2).1).length=EvE.k:=EvE.len _ hok
        have hone:=EvE.one (xenS (xitG xenS t k).2).1
        have htl:(v8 (xtgS (xtxS 4194304 (xnuS 64 (xitG xenS t k).2).2).2).1).length=16:=by rw[v8_length];exact zaf _ _
        have hbs:=fun w0=>zdb (xnuS 64 (xitG xenS t k).2).1 (xtxS 4194304 (xnuS 64 (xitG xenS t k).2).2).1 _ htl w0
        obtain⟨u,hu⟩:∃u,Hid (EvE.f (xenS (xitG xenS t k).2).1=u):=⟨_,hide rfl⟩
        rw[hu.out]at hul hone
        have hbs:∀w0:World,(Instr.build 25 #[(0,.int .i64 (xnuS 64 (xitG xenS t k).2).1),(1,.string (xtxS 4194304 (xnuS 64 (xitG xenS t k).2).2).1),(2,.agg (v8 (xtgS (xtxS 4194304 (xnuS 64 (xitG xenS t k).2).2).2).1).toArray)]).run prog w0=.ok (.agg (EvE.f (xenS (xitG xenS t k).2).1).toArray) w0:=hbs
        simp only[hu.out]at hbs
        go_upto_region 6 with fail
        refine pl_b ?_
        refine pl_a 22 ?_
        refine pl_c 23 ?_
        refine(cA wr HR).mono ?_
        rintro _ w3 ⟨rfl,S3,g3⟩
        refine⟨_,rfl,?_⟩
        simp only[nz]
        refine pl_a 6 ?_
        refine za ?_
        go_upto_region 7 with fail
        refine pl_b ?_
        refine pl_a 24 ?_
        refine pl_c 25 ?_
        refine(cX w3 S3).mono ?_
        rintro _ wx ⟨rfl,Sx,gx⟩
        refine⟨_,rfl,?_⟩
        simp only[nz]
        refine pl_a 7 ?_
        refine za ?_
        go_upto_region 8 with fail
        refine pl_b ?_
        refine pl_a 26 ?_
        refine pl_a 27 ?_
        refine pl_a 28 ?_
        refine pl_a 29 ?_
        refine pl_c 30 ?_
        refine(cT wx Sx).mono ?_
        rintro _ w4 ⟨rfl,S4,gT⟩
        refine⟨_,rfl,?_⟩
        simp only[nz]
        have g4:=zr (zr g3 gx) gT
        refine pl_v 31 (.agg u.toArray) (zI (parts:=[(0,.tmp 27),(1,.tmp 28),(2,.tmp 30)]) rfl rfl (hbs _)) ?_
        have o4:w4.ownsRow w.heap.size 25 _ _ _ _:=HO.kept g4 (by
          cases hv:u4.ownBlock with
          |none=>exact .inl rfl
          |some q=>exact .inr (by have:=(HO.lt q hv).1;intro q2;injection q2 with q2;omega))
        have hb5:Below w4.heap.size w4 (w4.alloc (.cells u.toArray 25)):=(Below.refl _ _).alloc (Nat.le_refl _) _
        have r5:(w4.alloc (.cells u.toArray 25)).rangeAt w4.heap.size 0 u:=by simpa using zA w4 u.toArray 25
        have o5:=o4.alloc (.cells u.toArray 25)
        refine pl_r 32 (.slice (some ⟨w4.heap.size,0,none⟩) 1 1) (w4.alloc (.cells u.toArray 25)) (za4 rfl rfl (zaY 47 25 i1 _ u underlying47 hi1 hiz (by rw[his,hul];rfl) (by rw[hul];decide) (by rw[hul];decide) _)) ?_
        have s4:w.heap.size≤w4.heap.size:=Nat.le_trans HG.size g4.size
        obtain⟨w5,hw5⟩:∃W,w4.alloc (.cells u.toArray 25)=W:=⟨_,rfl⟩
        rw[hw5]at hb5 r5 o5 ⊢
        clear hw5
        refine zba (d:=some 33) (by rfl) rfl (zbr rfl rfl rfl underlying47 hi1 hiz his (by rw[hib];decide) rfl o5 (Nat.le_trans s4 hb5.size) r5 hul hone (by omega) hzk) ?_
        rintro v6 w6 ⟨o6,g6,-⟩
        simp only[nz]
        refine pl_a 4 ?_
        refine za ?_
        have b6:Below w.heap.size w4 w6:=zaT (hb5.mono s4) (Nat.le_trans s4 hb5.size) o5 g6
        have HL6:Hid (XL w D X EvE 25 xenS t (k+1) v6 w6):=hide ⟨by rw[hst,List.flatMap_append,List.length_append];have o6':w6.ownsRow w.heap.size 25 EvE.k v6 _ _:=o6;simpa [hu.out]using o6',by rw[hst];exact S4.low b6 hXw,zu (zr HG g4) b6 (Nat.le_refl _),by
          rw[hst]
          intro y hy
          rcases List.mem_append.1 hy with g|g
          · exact HK y g
          · rw[List.mem_singleton.1 g];exact hok⟩
        clear HR HO HG HK o4 o5 o6 g6 b6 S4 g4 hb5 r5 hst hu hok
        go_wp2_with fail
        go_roundw
        case rel=>exact⟨k+1,by omega,by go_num,HL6⟩
        case measure=>simp[intOf];omega
      · have HF:=hide (FIN (.inr he))
        obtain⟨ee,hee⟩:∃x,(xitG xenS t k).2.2=x:=⟨_,rfl⟩
        rw[hee]at hce he
        have hee':(ee==0)=false:=by simpa using he
        clear HL FIN
        go_upto_region 4 with fail
        refine pl_b ?_
        refine pl_a 10 ?_
        refine pl_a 11 ?_
        refine pl_v 12 (.bool true) (by go_simp<;>(try simp)<;>(try omega)) ?_
        refine pl_a 13 ?_
        refine pl_a 14 ?_
        refine pl_a 15 ?_
        refine pl_a 16 ?_
        refine pl_v 17 (.int .i64 ee) (zg rfl rfl hce underlying3 rfl) ?_
        refine pl_v 18 (.bool false) (by go_simp<;>(try simp[he])) ?_
        refine pl_a 19 ?_
        refine za ?_
        clear hce
        obtain⟨x,hx,F⟩:=HF.out
        have HF2:=hide F
        clear F HF
        subst hx
        go_wp2_with fail
        go_ret
        exact⟨x,rfl,HF2.out⟩
    · have HF:=hide (FIN (.inl (by omega)))
      clear HL FIN hce
      have k2:¬((k:Int)<N):=by omega
      go_upto_region 4 with fail
      refine pl_b ?_
      refine pl_a 10 ?_
      refine pl_a 11 ?_
      refine pl_v 12 (.bool false) (by go_simp<;>(try simp)<;>(try omega)) ?_
      refine pl_a 13 ?_
      refine pl_k 14 ?_
      refine pl_k 15 ?_
      refine pl_k 16 ?_
      refine pl_k 17 ?_
      refine pl_k 18 ?_
      refine pl_a 19 ?_
      refine za ?_
      obtain⟨x,hx,F⟩:=HF.out
      have HF2:=hide F
      clear F HF
      subst hx
      go_wp2_with fail
      go_ret
      exact⟨x,rfl,HF2.out⟩
theorem xlistS (D X:Nat) (s:Xst) (w:World) (h:XR w D X s):Calls prog 123 #[.pointer (some ⟨X,0,none⟩)] w fun en w'=>∃x:Sl Sg,en=.returned x.val∧x.xs=(xlsS 64 xsiS s).1∧x.At SgE w'∧x.Bk (fun b=>w.heap.size≤b∧b<w'.heap.size)∧XR w' D X (xlsS 64 xsiS s).2∧w.grownBy w' (some X):=by
  obtain⟨i1,hi1,hiz,his,hib⟩:=zR infoSg
  have hzk:=zev
  have hXw:=h.lx
  have cn:=fun w0 h0=>xnumS D X 64 s w0 h0
  have hx1:0≤(xnuS 64 s).1∧(xnuS 64 s).1≤64:=zag (most:=64) h.st.bs (by omega)
  unfold xlsS
  generalize xnuS 64 s=p_ at hx1 cn ⊢
  obtain⟨n,t⟩:=p_
  simp only at hx1 cn ⊢
  obtain⟨N,rfl⟩:∃N:Nat,n=(N:Int):=⟨n.toNat,by omega⟩
  have hN:N≤64:=by omega
  rw[Int.toNat_natCast]
  clear hx1
  go_enter func123,ntmps123
  go_upto_region 1 with fail
  refine pl_b ?_
  refine pl_a 7 ?_
  refine pl_c 8 ?_
  refine(cn w h).mono ?_
  rintro _ w2 ⟨rfl,S2,g2⟩
  refine⟨_,rfl,?_⟩
  simp only[nz]
  refine pl_a 3 ?_
  refine za ?_
  clear cn
  have HL0:Hid (XL w D X SgE 133 xsiS t 0 (.slice none 0 0) w2):=hide ⟨World.ownsRow_nil _ _ _ _,S2,g2,fun y hy=>by cases hy⟩
  clear S2 g2 h
  go_wp2_with fail
  go_loopw [4,5] (fun ov iv wr=>∃k:Nat,k≤N∧iv=.int .i64 (k:Int)∧Hid (XL w D X SgE 133 xsiS t k ov wr)) (fun _ iv _=>N - (intOf iv).toNat)
  case atStart=>exact⟨0,by omega,rfl,HL0⟩
  case round=>
    clear HL0
    obtain⟨k,hk,rfl,HL⟩:=hrel
    have HL:=HL.out
    have FIN:k=N∨(xitG xsiS t k).2.2≠0→∃y:Sl Sg,u4=y.val∧y.xs=(xitG xsiS t N).1∧y.At SgE wr∧y.Bk (fun b=>w.heap.size≤b∧b<wr.heap.size)∧XR wr D X (xitG xsiS t N).2∧w.grownBy wr (some X):=fun hh=>by
      have e:xitG xsiS t N=xitG xsiS t k:=by
        rcases hh with g|g
        · rw[g]
        · exact zdf g N hk
      rw[e]
      obtain⟨x,h1,h2,h3,h4⟩:=zbj (E:=SgE) (ys:=(xitG xsiS t k).1) HL.own HL.ok (by have:=za7 xsiS t k;unfold maxLen;omega)
      exact⟨x,h1,h2,h3,fun b _ hb=>⟨(h4 b hb).1,(h4 b hb).2.1⟩,HL.rs,HL.gr⟩
    have hce:=HL.rs.st.err
    by_cases hlt:k<N
    · have k1:(k:Int)<N:=by omega
      by_cases he:(xitG xsiS t k).2.2=0
      · have hst : xitG xsiS t (k + 1) = ((xitG xsiS t k).1 ++ [(xsiS (xitG xsiS t k).2).1], (xsiS (xitG xsiS t k).2).2) := by
          show(if(xitG xsiS t k).2.2=0 then _ else _)=_
          rw[if_pos he]
        have hok:=zhH (xitG xsiS t k).2 HL.rs.st.bs
        have hlen:=za7 xsiS t k
        have HR:=HL.rs
        have HO:=HL.own
        have HG:=HL.gr
        have HK:=HL.ok
        clear HL FIN
        obtain⟨ee,hee⟩:∃x,(xitG xsiS t k).2.2=x:=⟨_,rfl⟩
        rw[hee]at hce he
        subst he
        clear hee
        have hee:True:=trivial
        go_upto_region 4 with fail
        refine pl_b ?_
        refine pl_a 9 ?_
        refine pl_a 10 ?_
        refine pl_v 11 (.bool true) (by go_simp<;>(try simp)<;>(try omega)) ?_
        refine pl_a 12 ?_
        refine pl_a 13 ?_
        refine pl_a 14 ?_
        refine pl_a 15 ?_
        refine pl_v 16 (.int .i64 0) (zg rfl rfl hce underlying3 rfl) ?_
        refine pl_v 17 (.bool true) (by go_simp<;>(try simp)) ?_
        refine pl_a 18 ?_
        refine za ?_
        have cA:=fun w0 h0=>xnumS D X 64 (xitG xsiS t k).2 w0 h0
        have cT:=fun w0 h0=>xtagS D X (xnuS 64 (xitG xsiS t k).2).2 w0 h0
        have hul:(SgE.f (xsiS (xitG xsiS t k).2).1).length=SgE.k:=SgE.len _ hok
        have hone:=SgE.one (xsiS (xitG xsiS t k).2).1
        have htl:(v8 (xtgS (xnuS 64 (xitG xsiS t k).2).2).1).length=16:=by rw[v8_length];exact zaf _ _
        have hbs:=fun w0=>zhr (xnuS 64 (xitG xsiS t k).2).1 _ htl w0
        obtain⟨u,hu⟩:∃u,Hid (SgE.f (xsiS (xitG xsiS t k).2).1=u):=⟨_,hide rfl⟩
        rw[hu.out]at hul hone
        have hbs:∀w0:World,(Instr.build 133 #[(0,.int .i64 (xnuS 64 (xitG xsiS t k).2).1),(1,.agg (v8 (xtgS (xnuS 64 (xitG xsiS t k).2).2).1).toArray)]).run prog w0=.ok (.agg (SgE.f (xsiS (xitG xsiS t k).2).1).toArray) w0:=hbs
        simp only[hu.out]at hbs
        go_upto_region 6 with fail
        refine pl_b ?_
        refine pl_a 21 ?_
        refine pl_c 22 ?_
        refine(cA wr HR).mono ?_
        rintro _ w3 ⟨rfl,S3,g3⟩
        refine⟨_,rfl,?_⟩
        simp only[nz]
        refine pl_a 6 ?_
        refine za ?_
        go_upto_region 7 with fail
        refine pl_b ?_
        refine pl_a 23 ?_
        refine pl_a 24 ?_
        refine pl_a 25 ?_
        refine pl_c 26 ?_
        refine(cT w3 S3).mono ?_
        rintro _ w4 ⟨rfl,S4,gT⟩
        refine⟨_,rfl,?_⟩
        simp only[nz]
        have g4:=zr g3 gT
        refine pl_v 27 (.agg u.toArray) (zI (parts:=[(0,.tmp 24),(1,.tmp 26)]) rfl rfl (hbs _)) ?_
        have o4:w4.ownsRow w.heap.size 133 _ _ _ _:=HO.kept g4 (by
          cases hv:u4.ownBlock with
          |none=>exact .inl rfl
          |some q=>exact .inr (by have:=(HO.lt q hv).1;intro q2;injection q2 with q2;omega))
        have hb5:Below w4.heap.size w4 (w4.alloc (.cells u.toArray 133)):=(Below.refl _ _).alloc (Nat.le_refl _) _
        have r5:(w4.alloc (.cells u.toArray 133)).rangeAt w4.heap.size 0 u:=by simpa using zA w4 u.toArray 133
        have o5:=o4.alloc (.cells u.toArray 133)
        refine pl_r 28 (.slice (some ⟨w4.heap.size,0,none⟩) 1 1) (w4.alloc (.cells u.toArray 133)) (za4 rfl rfl (zaY 48 133 i1 _ u underlying48 hi1 hiz (by rw[his,hul];rfl) (by rw[hul];decide) (by rw[hul];decide) _)) ?_
        have s4:w.heap.size≤w4.heap.size:=Nat.le_trans HG.size g4.size
        obtain⟨w5,hw5⟩:∃W,w4.alloc (.cells u.toArray 133)=W:=⟨_,rfl⟩
        rw[hw5]at hb5 r5 o5 ⊢
        clear hw5
        refine zba (d:=some 29) (by rfl) rfl (zbr rfl rfl rfl underlying48 hi1 hiz his (by rw[hib];decide) rfl o5 (Nat.le_trans s4 hb5.size) r5 hul hone (by omega) hzk) ?_
        rintro v6 w6 ⟨o6,g6,-⟩
        simp only[nz]
        refine pl_a 4 ?_
        refine za ?_
        have b6:Below w.heap.size w4 w6:=zaT (hb5.mono s4) (Nat.le_trans s4 hb5.size) o5 g6
        have HL6:Hid (XL w D X SgE 133 xsiS t (k+1) v6 w6):=hide ⟨by rw[hst,List.flatMap_append,List.length_append];have o6':w6.ownsRow w.heap.size 133 SgE.k v6 _ _:=o6;simpa [hu.out]using o6',by rw[hst];exact S4.low b6 hXw,zu (zr HG g4) b6 (Nat.le_refl _),by
          rw[hst]
          intro y hy
          rcases List.mem_append.1 hy with g|g
          · exact HK y g
          · rw[List.mem_singleton.1 g];exact hok⟩
        clear HR HO HG HK o4 o5 o6 g6 b6 S4 g4 hb5 r5 hst hu hok
        go_wp2_with fail
        go_roundw
        case rel=>exact⟨k+1,by omega,by go_num,HL6⟩
        case measure=>simp[intOf];omega
      · have HF:=hide (FIN (.inr he))
        obtain⟨ee,hee⟩:∃x,(xitG xsiS t k).2.2=x:=⟨_,rfl⟩
        rw[hee]at hce he
        have hee':(ee==0)=false:=by simpa using he
        clear HL FIN
        go_upto_region 4 with fail
        refine pl_b ?_
        refine pl_a 9 ?_
        refine pl_a 10 ?_
        refine pl_v 11 (.bool true) (by go_simp<;>(try simp)<;>(try omega)) ?_
        refine pl_a 12 ?_
        refine pl_a 13 ?_
        refine pl_a 14 ?_
        refine pl_a 15 ?_
        refine pl_v 16 (.int .i64 ee) (zg rfl rfl hce underlying3 rfl) ?_
        refine pl_v 17 (.bool false) (by go_simp<;>(try simp[he])) ?_
        refine pl_a 18 ?_
        refine za ?_
        clear hce
        obtain⟨x,hx,F⟩:=HF.out
        have HF2:=hide F
        clear F HF
        subst hx
        go_wp2_with fail
        go_ret
        exact⟨x,rfl,HF2.out⟩
    · have HF:=hide (FIN (.inl (by omega)))
      clear HL FIN hce
      have k2:¬((k:Int)<N):=by omega
      go_upto_region 4 with fail
      refine pl_b ?_
      refine pl_a 9 ?_
      refine pl_a 10 ?_
      refine pl_v 11 (.bool false) (by go_simp<;>(try simp)<;>(try omega)) ?_
      refine pl_a 12 ?_
      refine pl_k 13 ?_
      refine pl_k 14 ?_
      refine pl_k 15 ?_
      refine pl_k 16 ?_
      refine pl_k 17 ?_
      refine pl_a 18 ?_
      refine za ?_
      obtain⟨x,hx,F⟩:=HF.out
      have HF2:=hide F
      clear F HF
      subst hx
      go_wp2_with fail
      go_ret
      exact⟨x,rfl,HF2.out⟩
theorem zgN {P:Program} {ops:Array Oper} {Q:Exit→Act→World→Prop} {l:List Nat} {S:World→Prop} {fuel:Nat} {listed:Array Bool} {a:Act} {w:World} (hr:Region.ready .any ops listed=l) (hl:l≠[])
  (h:∀i∈l,StepS P ops Q S fuel listed i a w):HeldS P ops Q S (fuel+1) listed a w:=by
 subst hr
 refine wpAnyH_all rfl ?_ ?_
 ·exact hl
 ·intro k hk
  exact h k hk
theorem zd0 {P:Program} {ops:Array Oper} {Q:Exit→Act→World→Prop} {i:Nat} {S:World→Prop} {oi:Oper} {d:Option Nat} {R:Value→World→Prop} {fuel:Nat} {listed:Array Bool} {a:Act} {w:World} (hi:ops[i]? =some oi)
  (hr:Region.ready .any ops listed=[i]) (hw:Region.wanted oi (yielded ops a.tmps)=true) (hdst:oi.dst=d) (hy:∃v w',(execOp a.eval oi).run P w=.ok (.value v) w'∧R v w')
  (h:∀v w',R v w'→S w'∧HeldS P ops Q S fuel (listed.setIfInBounds i true) (a.put d v) w'):HeldS P ops Q S (fuel+1) listed a w:=by
 obtain⟨v,w',h1,h2⟩:=hy
 obtain⟨h4,h5⟩:=h v w' h2
 exact zat hi hr hw h1 hdst h4 h5
def xceS (s:Xst):(Vt ×List Sg) ×Xst:=(((xvoS s).1,(xlsS 64 xsiS (xvoS s).2).1),(xlsS 64 xsiS (xvoS s).2).2)
theorem zeroVtE (w:World):(zeroValue 43).run prog w=.ok (.agg Vt.zero.cells.toArray) w:=by kernel_rfl
theorem xcertS (D X:Nat) (s:Xst) (w:World) (h:XR w D X s):Calls prog 122 #[.pointer (some ⟨X,0,none⟩)] w fun en w'=>∃x:Sl Sg,en=.returned (.agg (certL (xceS s).1.1 x).toArray)∧x.xs=(xceS s).1.2∧x.At SgE w'∧x.Bk (fun b=>w.heap.size≤b∧b<w'.heap.size)∧(xceS s).1.1.ok∧XR w' D X (xceS s).2∧w.grownBy w' (some X):=by
 obtain⟨zc,hzl,hzr⟩:∃z:List Value,z.length=37∧∀w:World,(zeroValue 50).run prog w=.ok (.agg z.toArray) w:=⟨_,by decide,zeroCeE⟩
 have hz36:Vt.zero.cells.length=36:=by decide
 have cv:=fun w0 h0=>xvoteS D X s w0 h0
 have hv2:=zeC s h.st.bs
 have hvl:=hv2.len
 have hvo:=Vt.one (xvoS s).1
 have hXw:=h.lx
 unfold xceS certL
 generalize xvoS s=p_ at cv hv2 hvl hvo ⊢
 obtain⟨vt,t⟩:=p_
 simp only at cv hv2 hvl hvo ⊢
 have cs:=fun w0 h0=>xlistS D X t w0 h0
 generalize xlsS 64 xsiS t=p_ at cs ⊢
 obtain⟨ls,t'⟩:=p_
 simp only at cs ⊢
 obtain⟨vc,hvc⟩:∃q,Hid (vt.cells=q):=⟨_,hide rfl⟩
 rw[hvc.out]at hvl hvo
 simp only[hvc.out]at cv ⊢
 clear hvc
 replace hv2:=hide hv2
 have hiv:(prog.info? 43).map (·.size)=some vc.length:=by rw[hvl];exact iszVo
 obtain⟨hB1,hr1,hs1⟩:=zq w zc 50
 have ht1:=zi w zc.toArray 50 (n:=37) (by simp[hzl])
 go_enter func122,ntmps122
 go_upto_region 0 with fail
 refine pl_b ?_
 refine pl_r 2 (.pointer (some ⟨w.heap.size,0,none⟩)) (w.alloc (.cells zc.toArray 50)) (zo rfl (hzr _)) ?_
 refine za ?_
 obtain⟨W1,hW1⟩:∃W,w.alloc (.cells zc.toArray 50)=W:=⟨_,rfl⟩
 rw[hW1]at hB1 hr1 hs1 ht1 ⊢
 clear hW1 hr1 hzr hzl
 have S1:=h.below hB1
 go_upto_region 1 with fail
 refine pl_b ?_
 refine pl_a 4 ?_
 refine pl_c 5 ?_
 refine(cv W1 S1).mono ?_
 rintro _ w2 ⟨rfl,S2,g2⟩
 refine⟨_,rfl,?_⟩
 simp only[nz]
 refine pl_r 3 (.pointer (some ⟨w2.heap.size,0,none⟩)) (w2.alloc (.cells Vt.zero.cells.toArray 43)) (zo rfl (zeroVtE _)) ?_
 refine pl_s ((w2.alloc (.cells Vt.zero.cells.toArray 43)).setCells w2.heap.size 0 vc) (zf (cs:=vc.toArray) rfl rfl rfl (zi _ _ _ (by rw[List.size_toArray];simp[hvl,hz36])) (by simpa [hvl]using iszVo) (zh hvo)) ?_
 refine za ?_
 obtain⟨hF1,hF2,hF3,-⟩:=zt w2 Vt.zero.cells.toArray 43 vc (by simp[hvl,hz36])
 obtain⟨w3,hw3⟩:∃W,(w2.alloc (.cells Vt.zero.cells.toArray 43)).setCells w2.heap.size 0 vc=W:=⟨_,rfl⟩
 rw[hw3]at hF1 hF2 hF3 ⊢
 clear hw3
 have z2:=g2.size
 have z3:=hF2.size
 have G3:w.grownBy w3 (some X):=zu (zr (zW hB1 (some X)) g2) hF2 (by omega)
 have S3:=S2.below hF2
 have t3:=zj (zJ ht1 g2 hs1 (by omega)) hF2 (by omega)
 clear S1 S2 g2 hF2 ht1 hB1 h cv
 go_upto_region 2 with fail
 have r8:w3.drew.rangeAt w2.heap.size 0 vc:=(World.rangeAt_drew _ _ _ _).2 hF1
 have t8:w3.drew.there w.heap.size 0 37:=t3
 have S8:=S3.below (Below.refl _ _).drew
 have G8:w.grownBy w3.drew (some X):=zu G3 ((Below.refl w3.heap.size w3).drew) (by omega)
 have z8:w3.drew.heap.size=w3.heap.size:=rfl
 refine zC (S:=(fun W'=>W'.rangeAt w2.heap.size 0 vc)) 5 rfl (by kernel_rfl) ?_
 obtain⟨w8,hw8⟩:∃W,w3.drew=W:=⟨_,rfl⟩
 rw[hw8]at r8 t8 S8 G8 z8 ⊢
 clear hw8 hF1 t3 S3 G3
 have hS:(fun W'=>W'.rangeAt w2.heap.size 0 vc) w8:=r8
 refine hs_v 0 6 (.agg vc.toArray) rfl (fun w' hw=>zp rfl rfl hw underlying43 rfl hiv) hS ?_
 refine hs_a 1 7 hS ?_
 refine hs_c 2 8 ?_
 refine(cs w8 S8).mono ?_
 rintro _ w4 ⟨x,rfl,hx,hA,hB,S4,g4⟩
 have hS:(fun W'=>W'.rangeAt w2.heap.size 0 vc) w4:=zaM r8 g4 (by omega) (by omega)
 refine⟨_,rfl,hS,?_⟩
 simp only[nz]
 have thA:w4.there w.heap.size 0 37:=zJ t8 g4 (by omega) (by omega)
 have hbs:=fun w0=>zht vc x hvl w0
 have hpl:(vc++[x.val]).length=37:=by rw[List.length_append,hvl];rfl
 have hip:(prog.info? 50).map (·.size)=some (vc++[x.val]).length:=by rw[hpl];exact iszCe
 have hp1:∀v∈vc++[x.val],v.oneCell'=true:=fun v hv=>by
  rcases List.mem_append.1 hv with g|g
  ·exact hvo v g
  ·rw[List.mem_singleton.1 g];rfl
 obtain⟨pc,hpc⟩:∃p,Hid (vc++[x.val]=p):=⟨_,hide rfl⟩
 simp only[hpc.out]at hbs hpl hip hp1
 refine hs_v 3 9 (.agg pc.toArray) rfl (fun w' hw=>zI (parts:=[(0,.tmp 6),(1,.tmp 8)]) rfl rfl (hbs _)) hS ?_
 have hSE:(fun W'=>W'.rangeAt w2.heap.size 0 vc) (w4.setCells w.heap.size 0 pc):=World.rangeAt_setCells_apart hS _ _ _ (.inl (by omega))
 refine zS (i:=4) (w':=w4.setCells w.heap.size 0 pc) rfl (by kernel_rfl) (by rfl) (zf (cs:=pc.toArray) rfl rfl rfl (by simpa [hpl]using thA) (by simpa using hip) (zh hp1)) rfl hSE ?_
 refine zv (by kernel_rfl) ?_
 have hlow:Below w.heap.size w4 (w4.setCells w.heap.size 0 pc):=ze (Nat.le_refl _) pc 0 _ (Below.refl _ w4)
 have hrs:=run_loadVar_mid (P:=prog) (w4.setCells w.heap.size 0 pc) w.heap.size 0 50 pc _ (World.rangeAt_setCells_same w4 w.heap.size 0 pc (by rw[hpl];exact thA)) underlying50 rfl hip
 have HF:Hid (∃y:Sl Sg,Ending.returned (.agg pc.toArray)=.returned (.agg (vc++[y.val]).toArray)∧y.xs=ls∧y.At SgE (w4.setCells w.heap.size 0 pc)∧y.Bk (fun b=>w.heap.size≤b∧b<(w4.setCells w.heap.size 0 pc).heap.size)∧vt.ok∧XR (w4.setCells w.heap.size 0 pc) D X t'∧w.grownBy (w4.setCells w.heap.size 0 pc) (some X)):=hide ⟨x,by rw[hpc.out],hx,hA.put hB (fun b hb=>by omega),hB.mono (fun b hb=>⟨by omega,by rw[zF];exact hb.2⟩),hv2.out,S4.low hlow hXw,zu (zr G8 g4) hlow (Nat.le_refl _)⟩
 clear hA hB S4 g4 hpc hbs hx G8 S8
 go_wp2_with fail
 refine bodyPost_ret (v:=.agg pc.toArray) ?_ rfl ?_
 ·simp[results,results122,Act.put,asAddr,hrs]
 ·exact HF.out
end Go.Proofs.YtcbpbkefggekmaaGreatDoor
