/- message's writer: lists, envelopes, batches, certs, held, changes; lists of what was held, compared; changes; changes compared; message's writer: votes, envelop -/
import Derived.Test.YtcbpbkefggekmaaGreatDoorJS0
import Derived.Test.YtcbpbkefggekmaaGreatDoorJS5
set_option maxHeartbeats 8000000
set_option maxRecDepth 100000
open Go.Proofs.Tryz
namespace Go.Proofs.YtcbpbkefggekmaaGreatDoor
open Go.RowKit
open Sha Tal
set_option linter.unusedVariables false
set_option linter.unusedSimpArgs false
theorem iszEv:(prog.info? 25).map (·.size)=some 18:=by kernel_rfl
theorem iszSg:(prog.info? 133).map (·.size)=some 17:=by kernel_rfl
theorem zeroSg:∃z:List Value,z.length=17∧∀w:World,(zeroValue 133).run prog w=.ok (.agg z.toArray) w:=⟨[.int .i64 0]++v8 (List.replicate 16 0),by decide,fun w=>by kernel_rfl⟩
theorem zeroEv:∃z:List Value,z.length=18∧∀w:World,(zeroValue 25).run prog w=.ok (.agg z.toArray) w:=⟨[.int .i64 0,.string ⟨#[]⟩]++v8 (List.replicate 16 0),by decide,fun w=>by kernel_rfl⟩
theorem zeroHd:∃z:List Value,z.length=39∧∀w:World,(zeroValue 113).run prog w=.ok (.agg z.toArray) w:=⟨[.bool false,.slice none 0 0]++(Vt.zero.cells++[.slice none 0 0]),by decide,fun w=>by kernel_rfl⟩
theorem ze0 (X:Nat) (v:Value) (zs:List Int) (x:Sl Sg) (w0 w:World) (hx:x.At SgE w0) (hb:Below w0.heap.size w0 w) (hX:w0.heap.size≤X) (h:WrAt w X v zs false) (hlen:x.xs.length≤1000)
  (hE:∀g∈x.xs,∀v' zs' w',Below w0.heap.size w0 w'→WrAt w' X v' zs' false→zs'.length+(sgL g).length≤4194304→Calls prog 97 #[.pointer (some ⟨X,0,none⟩),.agg (SgE.f g).toArray] w' fun e w''=>WrOn X v' zs' (sgL g) w' e w'')
  (hl:zs.length+(putL (x.xs.length:Int)++x.xs.flatMap sgL).length≤4194304):Calls prog 96 #[.pointer (some ⟨X,0,none⟩),x.val,.func (.func 97) #[.pointer (some ⟨X,0,none⟩)] #[]] w fun e w'=>WrOn X v zs (putL (x.xs.length:Int)++x.xs.flatMap sgL) w e w':=by
 obtain⟨a,cap,xs⟩:=x
 obtain⟨zc,hzl,hzc⟩:=zeroSg
 simp only[Sl.val]at*
 have hx:RowsAt SgE w0 a xs:=hx
 rw[List.length_append]at hl
 go_enter func96,ntmps96
 go_upto_region 0 with fail
 refine pl_b ?_
 refine pl_a 8 ?_
 refine pl_a 9 ?_
 refine pl_a 10 ?_
 refine pl_r 11 (.slice (some ⟨w.heap.size,0,none⟩) 1 1) (w.alloc (.cells #[.int .i64 (xs.length:Int)] 3)) (zav rfl rfl (zaA _ _)) ?_
 refine pl_c 12 ?_
 refine(zak X v zs [(xs.length:Int)] _ 1 w h rfl rfl (by omega) (zaz (by omega)) (by simp;omega)).mono ?_
 rintro _ w2 ⟨v2,rfl,hW2,hO2,hr2⟩
 refine⟨_,rfl,?_⟩
 simp only[nz]
 refine zb ?_
 have hW2:WrAt w2 X v2 (zs++putL (xs.length:Int)) false:=by simpa using hW2
 have HK0:Hid (∃v',WrAt w2 X v' (zs++(putL (xs.length:Int)++(xs.take 0).flatMap sgL)) false∧Off (WrF X v) w w2∧RowOn w v v'):=hide ⟨v2,by simpa using hW2,hO2,hr2⟩
 clear hW2 hO2 hr2
 go_wp2_with fail
 go_loopw [15] (fun iv wr=>∃k:Nat,k≤xs.length∧iv=.int .i64 (k:Int)∧Hid (∃v',WrAt wr X v' (zs++(putL (xs.length:Int)++(xs.take k).flatMap sgL)) false∧Off (WrF X v) w wr∧RowOn w v v')) (fun iv _=>xs.length - (intOf iv).toNat)
 case atStart=>exact⟨0,by omega,rfl,HK0⟩
 case round=>
  clear HK0
  obtain⟨k,hk,rfl,HK⟩:=hrel
  obtain⟨v3,hW3,hO3,hr3⟩:=HK.out
  clear HK
  by_cases hlt:k<xs.length
  ·have k1:(k:Int)<xs.length:=by omega
   have hbw:=hb.trans (zad h hX hO3)
   obtain⟨b,off,rfl,hbb,hre⟩:=RowsAt.elem (hx.below hbw) k hlt
   have hre:wr.rangeAt b (off+k*17) (SgE.f xs[k]):=hre
   have hiq:(prog.info? 133).map (·.size)=some (SgE.f xs[k]).length:=by rw[SgE.len _ (hx.2.1 _ (List.getElem_mem hlt))];exact iszSg
   have hq1:=SgE.one xs[k]
   have hql:(SgE.f xs[k]).length=17:=SgE.len _ (hx.2.1 _ (List.getElem_mem hlt))
   have hEk:=hE xs[k] (List.getElem_mem hlt)
   have HS:Hid ((xs.take (k+1)).flatMap sgL=(xs.take k).flatMap sgL++sgL xs[k]):=hide (by rw[List.take_succ_eq_append_getElem hlt,List.flatMap_append];simp)
   have hll:((xs.take (k+1)).flatMap sgL).length≤(xs.flatMap sgL).length:=by
    have e:xs.flatMap sgL=(xs.take (k+1)).flatMap sgL++(xs.drop (k+1)).flatMap sgL:=by rw[←List.flatMap_append,List.take_append_drop]
    rw[e,List.length_append]
    omega
   rw[HS.out,List.length_append]at hll
   obtain⟨bs,hbs⟩:∃bs,Hid (sgL xs[k]=bs):=⟨_,hide rfl⟩
   obtain⟨q,hqq⟩:∃q,Hid (SgE.f xs[k]=q):=⟨_,hide rfl⟩
   rw[hbs.out]at HS hll
   rw[hqq.out]at hre hiq hq1 hql
   simp only[hbs.out,hqq.out]at hEk
   clear hqq hbs
   have hXl:=hW3.lt
   go_upto_region 3 with fail
   refine pl_b ?_
   refine pl_a 17 ?_
   refine pl_v 18 (.agg q.toArray) (zm rfl rfl hre underlying133 rfl hiq) ?_
   refine pl_r 7 (.pointer (some ⟨wr.heap.size,0,none⟩)) (wr.alloc (.cells zc.toArray 133)) (zr rfl (hzc _)) ?_
   refine pl_s ((wr.alloc (.cells zc.toArray 133)).setCells wr.heap.size 0 q) (zo (cs:=q.toArray) rfl rfl rfl (zn _ _ _ (by simp[hzl,hql])) (by simpa using hiq) (zp hq1)) ?_
   refine zb ?_
   obtain⟨hF1,hF2,hF3,-⟩:=zq wr zc.toArray 133 q (by simp[hzl,hql])
   obtain⟨w5,hw5⟩:∃W,(wr.alloc (.cells zc.toArray 133)).setCells wr.heap.size 0 q=W:=⟨_,rfl⟩
   rw[hw5]at hF1 hF2 hF3 ⊢
   clear hw5
   have cE:=hEk v3 _ w5 (hbw.trans (hF2.mono hbw.size)) (hW3.below hF2) (by simp only[List.length_append];omega)
   have hO5:=hO3.below_r hF2
   have hr5:RowOn w v v3:=hr3
   clear hW3 hO3 hr3 hF2 hF3 hEk
   go_upto_region 4 with fail
   refine pl_b ?_
   refine pl_a 19 ?_
   refine pl_v 20 (.agg q.toArray) (zm rfl rfl hF1 underlying133 rfl hiq) ?_
   refine pl_c 21 ?_
   refine(cE).mono ?_
   rintro _ w6 hfin
   obtain⟨v6,rfl,g1,g2,g3⟩:=hfin
   refine⟨_,rfl,?_⟩
   simp only[nz]
   refine zb ?_
   have T:=zF hO5 hr5 g2 g3
   have HN:Hid (∃v',WrAt w6 X v' (zs++(putL (xs.length:Int)++(xs.take (k+1)).flatMap sgL)) false∧Off (WrF X v) w w6∧RowOn w v v'):=hide ⟨v6,by rw[HS.out];simpa [List.append_assoc]using g1,T.1,T.2⟩
   clear g1 g2 g3 T hO5 hr5 hF1
   go_wp2_with fail
   go_roundw
   case rel=>exact⟨k+1,by omega,by go_num,HN⟩
   case measure=>simp[intOf];omega
  ·obtain rfl:k=xs.length:=by omega
   rw[List.take_length]at hW3
   have HF:=hide (show WrOn X v zs (putL (xs.length:Int)++xs.flatMap sgL) w (.returned (.tuple #[])) wr from⟨v3,rfl,hW3,hO3,hr3⟩)
   go_wp2_with fail
   go_end0
   exact HF.out
theorem ziv (X:Nat) (v:Value) (zs:List Int) (x:Sl Ev) (w0 w:World) (hx:x.At EvE w0) (hb:Below w0.heap.size w0 w) (hX:w0.heap.size≤X) (h:WrAt w X v zs false) (hlen:x.xs.length≤1000)
  (hE:∀g∈x.xs,∀v' zs' w',Below w0.heap.size w0 w'→WrAt w' X v' zs' false→zs'.length+(evL g).length≤4194304→Calls prog 92 #[.pointer (some ⟨X,0,none⟩),.agg (EvE.f g).toArray] w' fun e w''=>WrOn X v' zs' (evL g) w' e w'')
  (hl:zs.length+(putL (x.xs.length:Int)++x.xs.flatMap evL).length≤4194304):Calls prog 91 #[.pointer (some ⟨X,0,none⟩),x.val,.func (.func 92) #[.pointer (some ⟨X,0,none⟩)] #[]] w fun e w'=>WrOn X v zs (putL (x.xs.length:Int)++x.xs.flatMap evL) w e w':=by
 obtain⟨a,cap,xs⟩:=x
 obtain⟨zc,hzl,hzc⟩:=zeroEv
 simp only[Sl.val]at*
 have hx:RowsAt EvE w0 a xs:=hx
 rw[List.length_append]at hl
 go_enter func91,ntmps91
 go_upto_region 0 with fail
 refine pl_b ?_
 refine pl_a 8 ?_
 refine pl_a 9 ?_
 refine pl_a 10 ?_
 refine pl_r 11 (.slice (some ⟨w.heap.size,0,none⟩) 1 1) (w.alloc (.cells #[.int .i64 (xs.length:Int)] 3)) (zav rfl rfl (zaA _ _)) ?_
 refine pl_c 12 ?_
 refine(zak X v zs [(xs.length:Int)] _ 1 w h rfl rfl (by omega) (zaz (by omega)) (by simp;omega)).mono ?_
 rintro _ w2 ⟨v2,rfl,hW2,hO2,hr2⟩
 refine⟨_,rfl,?_⟩
 simp only[nz]
 refine zb ?_
 have hW2:WrAt w2 X v2 (zs++putL (xs.length:Int)) false:=by simpa using hW2
 have HK0:Hid (∃v',WrAt w2 X v' (zs++(putL (xs.length:Int)++(xs.take 0).flatMap evL)) false∧Off (WrF X v) w w2∧RowOn w v v'):=hide ⟨v2,by simpa using hW2,hO2,hr2⟩
 clear hW2 hO2 hr2
 go_wp2_with fail
 go_loopw [15] (fun iv wr=>∃k:Nat,k≤xs.length∧iv=.int .i64 (k:Int)∧Hid (∃v',WrAt wr X v' (zs++(putL (xs.length:Int)++(xs.take k).flatMap evL)) false∧Off (WrF X v) w wr∧RowOn w v v')) (fun iv _=>xs.length - (intOf iv).toNat)
 case atStart=>exact⟨0,by omega,rfl,HK0⟩
 case round=>
  clear HK0
  obtain⟨k,hk,rfl,HK⟩:=hrel
  obtain⟨v3,hW3,hO3,hr3⟩:=HK.out
  clear HK
  by_cases hlt:k<xs.length
  ·have k1:(k:Int)<xs.length:=by omega
   have hbw:=hb.trans (zad h hX hO3)
   obtain⟨b,off,rfl,hbb,hre⟩:=RowsAt.elem (hx.below hbw) k hlt
   have hre:wr.rangeAt b (off+k*18) (EvE.f xs[k]):=hre
   have hiq:(prog.info? 25).map (·.size)=some (EvE.f xs[k]).length:=by rw[EvE.len _ (hx.2.1 _ (List.getElem_mem hlt))];exact iszEv
   have hq1:=EvE.one xs[k]
   have hql:(EvE.f xs[k]).length=18:=EvE.len _ (hx.2.1 _ (List.getElem_mem hlt))
   have hEk:=hE xs[k] (List.getElem_mem hlt)
   have HS:Hid ((xs.take (k+1)).flatMap evL=(xs.take k).flatMap evL++evL xs[k]):=hide (by rw[List.take_succ_eq_append_getElem hlt,List.flatMap_append];simp)
   have hll:((xs.take (k+1)).flatMap evL).length≤(xs.flatMap evL).length:=by
    have e:xs.flatMap evL=(xs.take (k+1)).flatMap evL++(xs.drop (k+1)).flatMap evL:=by rw[←List.flatMap_append,List.take_append_drop]
    rw[e,List.length_append]
    omega
   rw[HS.out,List.length_append]at hll
   obtain⟨bs,hbs⟩:∃bs,Hid (evL xs[k]=bs):=⟨_,hide rfl⟩
   obtain⟨q,hqq⟩:∃q,Hid (EvE.f xs[k]=q):=⟨_,hide rfl⟩
   rw[hbs.out]at HS hll
   rw[hqq.out]at hre hiq hq1 hql
   simp only[hbs.out,hqq.out]at hEk
   clear hqq hbs
   have hXl:=hW3.lt
   go_upto_region 3 with fail
   refine pl_b ?_
   refine pl_a 17 ?_
   refine pl_v 18 (.agg q.toArray) (zm rfl rfl hre underlying25 rfl hiq) ?_
   refine pl_r 7 (.pointer (some ⟨wr.heap.size,0,none⟩)) (wr.alloc (.cells zc.toArray 25)) (zr rfl (hzc _)) ?_
   refine pl_s ((wr.alloc (.cells zc.toArray 25)).setCells wr.heap.size 0 q) (zo (cs:=q.toArray) rfl rfl rfl (zn _ _ _ (by simp[hzl,hql])) (by simpa using hiq) (zp hq1)) ?_
   refine zb ?_
   obtain⟨hF1,hF2,hF3,-⟩:=zq wr zc.toArray 25 q (by simp[hzl,hql])
   obtain⟨w5,hw5⟩:∃W,(wr.alloc (.cells zc.toArray 25)).setCells wr.heap.size 0 q=W:=⟨_,rfl⟩
   rw[hw5]at hF1 hF2 hF3 ⊢
   clear hw5
   have cE:=hEk v3 _ w5 (hbw.trans (hF2.mono hbw.size)) (hW3.below hF2) (by simp only[List.length_append];omega)
   have hO5:=hO3.below_r hF2
   have hr5:RowOn w v v3:=hr3
   clear hW3 hO3 hr3 hF2 hF3 hEk
   go_upto_region 4 with fail
   refine pl_b ?_
   refine pl_a 19 ?_
   refine pl_v 20 (.agg q.toArray) (zm rfl rfl hF1 underlying25 rfl hiq) ?_
   refine pl_c 21 ?_
   refine(cE).mono ?_
   rintro _ w6 hfin
   obtain⟨v6,rfl,g1,g2,g3⟩:=hfin
   refine⟨_,rfl,?_⟩
   simp only[nz]
   refine zb ?_
   have T:=zF hO5 hr5 g2 g3
   have HN:Hid (∃v',WrAt w6 X v' (zs++(putL (xs.length:Int)++(xs.take (k+1)).flatMap evL)) false∧Off (WrF X v) w w6∧RowOn w v v'):=hide ⟨v6,by rw[HS.out];simpa [List.append_assoc]using g1,T.1,T.2⟩
   clear g1 g2 g3 T hO5 hr5 hF1
   go_wp2_with fail
   go_roundw
   case rel=>exact⟨k+1,by omega,by go_num,HN⟩
   case measure=>simp[intOf];omega
  ·obtain rfl:k=xs.length:=by omega
   rw[List.take_length]at hW3
   have HF:=hide (show WrOn X v zs (putL (xs.length:Int)++xs.flatMap evL) w (.returned (.tuple #[])) wr from⟨v3,rfl,hW3,hO3,hr3⟩)
   go_wp2_with fail
   go_end0
   exact HF.out
theorem ziu (X:Nat) (v:Value) (zs:List Int) (x:Sl Hd) (w0 w:World) (hx:x.At HdE w0) (hb:Below w0.heap.size w0 w) (hX:w0.heap.size≤X) (h:WrAt w X v zs false) (hlen:x.xs.length≤1000)
  (hE:∀g∈x.xs,∀v' zs' w',Below w0.heap.size w0 w'→WrAt w' X v' zs' false→zs'.length+(hdL g).length≤4194304→Calls prog 145 #[.pointer (some ⟨X,0,none⟩),.agg (HdE.f g).toArray] w' fun e w''=>WrOn X v' zs' (hdL g) w' e w'')
  (hl:zs.length+(putL (x.xs.length:Int)++x.xs.flatMap hdL).length≤4194304):Calls prog 144 #[.pointer (some ⟨X,0,none⟩),x.val,.func (.func 145) #[.pointer (some ⟨X,0,none⟩)] #[]] w fun e w'=>WrOn X v zs (putL (x.xs.length:Int)++x.xs.flatMap hdL) w e w':=by
 obtain⟨a,cap,xs⟩:=x
 obtain⟨zc,hzl,hzc⟩:=zeroHd
 simp only[Sl.val]at*
 have hx:RowsAt HdE w0 a xs:=hx
 rw[List.length_append]at hl
 go_enter func144,ntmps144
 go_upto_region 0 with fail
 refine pl_b ?_
 refine pl_a 8 ?_
 refine pl_a 9 ?_
 refine pl_a 10 ?_
 refine pl_r 11 (.slice (some ⟨w.heap.size,0,none⟩) 1 1) (w.alloc (.cells #[.int .i64 (xs.length:Int)] 3)) (zav rfl rfl (zaA _ _)) ?_
 refine pl_c 12 ?_
 refine(zak X v zs [(xs.length:Int)] _ 1 w h rfl rfl (by omega) (zaz (by omega)) (by simp;omega)).mono ?_
 rintro _ w2 ⟨v2,rfl,hW2,hO2,hr2⟩
 refine⟨_,rfl,?_⟩
 simp only[nz]
 refine zb ?_
 have hW2:WrAt w2 X v2 (zs++putL (xs.length:Int)) false:=by simpa using hW2
 have HK0:Hid (∃v',WrAt w2 X v' (zs++(putL (xs.length:Int)++(xs.take 0).flatMap hdL)) false∧Off (WrF X v) w w2∧RowOn w v v'):=hide ⟨v2,by simpa using hW2,hO2,hr2⟩
 clear hW2 hO2 hr2
 go_wp2_with fail
 go_loopw [15] (fun iv wr=>∃k:Nat,k≤xs.length∧iv=.int .i64 (k:Int)∧Hid (∃v',WrAt wr X v' (zs++(putL (xs.length:Int)++(xs.take k).flatMap hdL)) false∧Off (WrF X v) w wr∧RowOn w v v')) (fun iv _=>xs.length - (intOf iv).toNat)
 case atStart=>exact⟨0,by omega,rfl,HK0⟩
 case round=>
  clear HK0
  obtain⟨k,hk,rfl,HK⟩:=hrel
  obtain⟨v3,hW3,hO3,hr3⟩:=HK.out
  clear HK
  by_cases hlt:k<xs.length
  ·have k1:(k:Int)<xs.length:=by omega
   have hbw:=hb.trans (zad h hX hO3)
   obtain⟨b,off,rfl,hbb,hre⟩:=RowsAt.elem (hx.below hbw) k hlt
   have hre:wr.rangeAt b (off+k*39) (HdE.f xs[k]):=hre
   have hiq:(prog.info? 113).map (·.size)=some (HdE.f xs[k]).length:=by rw[HdE.len _ (hx.2.1 _ (List.getElem_mem hlt))];exact iszH
   have hq1:=HdE.one xs[k]
   have hql:(HdE.f xs[k]).length=39:=HdE.len _ (hx.2.1 _ (List.getElem_mem hlt))
   have hEk:=hE xs[k] (List.getElem_mem hlt)
   have HS:Hid ((xs.take (k+1)).flatMap hdL=(xs.take k).flatMap hdL++hdL xs[k]):=hide (by rw[List.take_succ_eq_append_getElem hlt,List.flatMap_append];simp)
   have hll:((xs.take (k+1)).flatMap hdL).length≤(xs.flatMap hdL).length:=by
    have e:xs.flatMap hdL=(xs.take (k+1)).flatMap hdL++(xs.drop (k+1)).flatMap hdL:=by rw[←List.flatMap_append,List.take_append_drop]
    rw[e,List.length_append]
    omega
   rw[HS.out,List.length_append]at hll
   obtain⟨bs,hbs⟩:∃bs,Hid (hdL xs[k]=bs):=⟨_,hide rfl⟩
   obtain⟨q,hqq⟩:∃q,Hid (HdE.f xs[k]=q):=⟨_,hide rfl⟩
   rw[hbs.out]at HS hll
   rw[hqq.out]at hre hiq hq1 hql
   simp only[hbs.out,hqq.out]at hEk
   clear hqq hbs
   have hXl:=hW3.lt
   go_upto_region 3 with fail
   refine pl_b ?_
   refine pl_a 17 ?_
   refine pl_v 18 (.agg q.toArray) (zm rfl rfl hre underlying113 rfl hiq) ?_
   refine pl_r 7 (.pointer (some ⟨wr.heap.size,0,none⟩)) (wr.alloc (.cells zc.toArray 113)) (zr rfl (hzc _)) ?_
   refine pl_s ((wr.alloc (.cells zc.toArray 113)).setCells wr.heap.size 0 q) (zo (cs:=q.toArray) rfl rfl rfl (zn _ _ _ (by simp[hzl,hql])) (by simpa using hiq) (zp hq1)) ?_
   refine zb ?_
   obtain⟨hF1,hF2,hF3,-⟩:=zq wr zc.toArray 113 q (by simp[hzl,hql])
   obtain⟨w5,hw5⟩:∃W,(wr.alloc (.cells zc.toArray 113)).setCells wr.heap.size 0 q=W:=⟨_,rfl⟩
   rw[hw5]at hF1 hF2 hF3 ⊢
   clear hw5
   have cE:=hEk v3 _ w5 (hbw.trans (hF2.mono hbw.size)) (hW3.below hF2) (by simp only[List.length_append];omega)
   have hO5:=hO3.below_r hF2
   have hr5:RowOn w v v3:=hr3
   clear hW3 hO3 hr3 hF2 hF3 hEk
   go_upto_region 4 with fail
   refine pl_b ?_
   refine pl_a 19 ?_
   refine pl_v 20 (.agg q.toArray) (zm rfl rfl hF1 underlying113 rfl hiq) ?_
   refine pl_c 21 ?_
   refine(cE).mono ?_
   rintro _ w6 hfin
   obtain⟨v6,rfl,g1,g2,g3⟩:=hfin
   refine⟨_,rfl,?_⟩
   simp only[nz]
   refine zb ?_
   have T:=zF hO5 hr5 g2 g3
   have HN:Hid (∃v',WrAt w6 X v' (zs++(putL (xs.length:Int)++(xs.take (k+1)).flatMap hdL)) false∧Off (WrF X v) w w6∧RowOn w v v'):=hide ⟨v6,by rw[HS.out];simpa [List.append_assoc]using g1,T.1,T.2⟩
   clear g1 g2 g3 T hO5 hr5 hF1
   go_wp2_with fail
   go_roundw
   case rel=>exact⟨k+1,by omega,by go_num,HN⟩
   case measure=>simp[intOf];omega
  ·obtain rfl:k=xs.length:=by omega
   rw[List.take_length]at hW3
   have HF:=hide (show WrOn X v zs (putL (xs.length:Int)++xs.flatMap hdL) w (.returned (.tuple #[])) wr from⟨v3,rfl,hW3,hO3,hr3⟩)
   go_wp2_with fail
   go_end0
   exact HF.out
def Hd.zero:Hd:=⟨false,⟨none,0,[]⟩,Vt.zero,⟨none,0,[]⟩⟩
def HdsAt (w:World) (x:Sl Hd):Prop:=x.At HdE w∧∀h∈x.xs,h.At w
theorem HdsAt.below {w w':World} {x:Sl Hd} (k:HdsAt w x) (hb:Below w.heap.size w w'):HdsAt w' x:=⟨k.1.below hb,fun h hh=>(k.2 h hh).below hb⟩
theorem zcQ {α:Type} {B:α→α→Bool}:∀{xs ys:List α},xs.length≠ys.length→sameL B xs ys=false
  |[],[],h=>absurd rfl h
  |_::_,[],_=>rfl
  |[],_::_,_=>rfl
  |_::xs,_::ys,h=>by
    have:=zcQ (B:=B) (xs:=xs) (ys:=ys) (fun e=>h (by simp[e]))
    simp[sameL,this]
theorem zdR {α:Type} [Inhabited α] {B:α→α→Bool}:∀{xs ys:List α},xs.length=ys.length→(∀i,i<xs.length→B (xs.getD i default) (ys.getD i default)=true)→sameL B xs ys=true
  |[],[],_,_=>rfl
  |x::xs,y::ys,h,k=>by
    have h0:=k 0 (by simp)
    have:=zdR (B:=B) (xs:=xs) (ys:=ys) (by simpa using h) (fun i hi=>by have:=k (i+1) (by simp;omega);simpa using this)
    simp only[List.getD_cons_zero]at h0
    simp[sameL,this,h0]
theorem zdQ {α:Type} [Inhabited α] {B:α→α→Bool}:∀{xs ys:List α} (i:Nat),i<xs.length→xs.length=ys.length→B (xs.getD i default) (ys.getD i default)=false→sameL B xs ys=false
  |x::xs,y::ys,0,_,_,k=>by
    simp only[List.getD_cons_zero]at k
    simp[sameL,k]
  |x::xs,y::ys,i+1,hi,h,k=>by
    have:=zdQ (B:=B) (xs:=xs) (ys:=ys) i (by simpa using hi) (by simpa using h) (by simpa using k)
    simp[sameL,this]
theorem zmd (x y:Sl Hd) (w:World) (hx:HdsAt w x) (hy:HdsAt w y):
  Calls prog 163 #[x.val,y.val,.func (.func 164) #[] #[]] w fun e w'=>e=.returned (.bool (sameL Hd.B x.xs y.xs))∧Below w.heap.size w w':=by
 obtain⟨a,cap,xs⟩:=x
 obtain⟨a',cap',ys⟩:=y
 have hml:xs.length≤maxLen:=hx.1.1
 have hml':ys.length≤maxLen:=hy.1.1
 unfold maxLen at hml hml'
 simp only[Sl.val]
 by_cases hlen:xs.length=ys.length
 rotate_left
 ·rw[zcQ hlen]
  have e0:((xs.length:Int)==ys.length)=false:=by simp;omega
  clear hlen
  go_enter func163,ntmps163
  go_wp2
  go_ret
  exact⟨rfl,Below.refl _ _⟩
 ·have e0:((xs.length:Int)==ys.length)=true:=by simp;omega
  have HL:=hide hlen
  clear hlen
  obtain⟨sb,hsb⟩:∃sb,Hid (sameL Hd.B xs ys=sb):=⟨_,hide rfl⟩
  rw[hsb.out]
  go_enter func163,ntmps163
  go_wp2
  go_loopw [17] (fun iv wr'=>∃k:Nat,k≤xs.length∧iv=.int .i64 (k:Int)∧Hid (∀j,j<k→Hd.B (xs.getD j default) (ys.getD j default)=true)∧Below w.heap.size w wr') (fun iv _=>xs.length - (intOf iv).toNat)
  case atStart=>exact⟨0,by omega,rfl,hide (fun j hj=>absurd hj (by omega)),Below.refl _ _⟩
  case round=>
   clear e0
   rename ((xs.length:Int) !=(ys.length:Int))=false=>hne0
   clear hne0
   obtain⟨k,hk,rfl,HM,hB⟩:=hrel
   by_cases hlt:k<xs.length
   ·have k1:(k:Int)<xs.length:=by omega
    have hlt':k<ys.length:=by have:=HL.out;omega
    have k1':(k:Int)<ys.length:=by omega
    obtain⟨b,off,rfl,hb,hre⟩:=RowsAt.elem (hx.1.below hB) k hlt
    obtain⟨b',off',rfl,hb',hre'⟩:=RowsAt.elem (hy.1.below hB) k hlt'
    have hre:wr.rangeAt b (off+k*39) xs[k].cells:=hre
    have hre':wr.rangeAt b' (off'+k*39) ys[k].cells:=hre'
    have hgx:xs.getD k default=xs[k]:=by rw[List.getD_eq_getElem?_getD,List.getElem?_eq_getElem hlt];rfl
    have hgy:ys.getD k default=ys[k]:=by rw[List.getD_eq_getElem?_getD,List.getElem?_eq_getElem hlt'];rfl
    have okx:xs[k].vt.ok:=hx.1.2.1 _ (List.getElem_mem hlt)
    have oky:ys[k].vt.ok:=hy.1.2.1 _ (List.getElem_mem hlt')
    have atx:=(hx.2 _ (List.getElem_mem hlt)).below hB
    have aty:=(hy.2 _ (List.getElem_mem hlt')).below hB
    obtain⟨gx,hX⟩:∃g,Hid (xs[k]=g):=⟨_,hide rfl⟩
    obtain⟨gy,hY⟩:∃g,Hid (ys[k]=g):=⟨_,hide rfl⟩
    rw[hX.out]at hre hgx okx atx
    rw[hY.out]at hre' hgy oky aty
    clear hX hY
    have HT:Hid (Hd.B gx gy=true→∀j,j<k+1→Hd.B (xs.getD j default) (ys.getD j default)=true):=hide (fun hp j hj=>by
     by_cases e:j=k
     ·subst e;rw[hgx,hgy];exact hp
     ·exact HM.out j (by omega))
    have HF:Hid (Hd.B gx gy=false→sb=false):=hide (fun hp=>by
     rw[←hsb.out]
     exact zdQ k hlt HL.out (by rw[hgx,hgy];exact hp))
    have lu:gx.cells.length=39:=HdE.len _ okx
    have lu':gy.cells.length=39:=HdE.len _ oky
    have ou:gx.cells.toArray.all (·.oneCell')=true:=all_oneCell_toArray (HdE.one gx)
    have ou':gy.cells.toArray.all (·.oneCell')=true:=all_oneCell_toArray (HdE.one gy)
    have cs:=fun(w0:World) (hb:Below wr.heap.size wr w0)=>zi7 gx gy w0 okx oky (atx.below hb) (aty.below hb)
    generalize gx.cells=u at *
    generalize gy.cells=u' at *
    generalize Hd.B gx gy=hb1 at *
    clear hgx hgy HM okx oky atx aty
    have iu:(prog.info? 113).map (·.size)=some u.length:=by rw[lu];exact iszH
    have iu':(prog.info? 113).map (·.size)=some u'.length:=by rw[lu'];exact iszH
    have iA:(prog.info? 113).map (·.size)=some u.toArray.size:=by rw[List.size_toArray,lu];exact iszH
    have iA':(prog.info? 113).map (·.size)=some u'.toArray.size:=by rw[List.size_toArray,lu'];exact iszH
    have zl:Hd.zero.cells.toArray.size=39:=rfl
    obtain⟨r5,hB5,hs5,_⟩:=zq wr Hd.zero.cells.toArray 113 u (by rw[lu];rfl)
    have hT5:(wr.alloc (.cells Hd.zero.cells.toArray 113)).there wr.heap.size 0 u.toArray.size:=by
     have:=zE wr Hd.zero.cells.toArray 113
     rw[zl]at this
     rw[show u.toArray.size=39 by simpa using lu]
     exact this
    go_upto_region 6 with(first|(refine wpList_load_mid rfl 113 _ rfl _ _ rfl u _ hre underlying113 rfl iu ?_)|(refine wpList_store_mid rfl 113 _ _ rfl _ _ u.toArray rfl rfl hT5 iA ou ?_))
    go_name_world w5 hw5
    rw[show(wr.alloc (.cells Hd.zero.cells.toArray 113)).setCells wr.heap.size 0 u=w5 from hw5]at r5 hB5 hs5
    have hs5':wr.heap.size<w5.heap.size:=by omega
    clear hw5 hs5 hT5 hre
    have hre5':=za hre' hB5 hb'
    obtain⟨r6,hB6,hs6,_⟩:=zq w5 Hd.zero.cells.toArray 113 u' (by rw[lu'];rfl)
    have hT6:(w5.alloc (.cells Hd.zero.cells.toArray 113)).there w5.heap.size 0 u'.toArray.size:=by
     have:=zE w5 Hd.zero.cells.toArray 113
     rw[zl]at this
     rw[show u'.toArray.size=39 by simpa using lu']
     exact this
    go_upto_region 7 with(first|(refine wpList_load_mid rfl 113 _ rfl _ _ rfl u' _ hre5' underlying113 rfl iu' ?_)|(refine wpList_store_mid rfl 113 _ _ rfl _ _ u'.toArray rfl rfl hT6 iA' ou' ?_))
    go_name_world w6 hw6
    rw[show(w5.alloc (.cells Hd.zero.cells.toArray 113)).setCells w5.heap.size 0 u'=w6 from hw6]at r6 hB6 hs6
    clear hw6 hT6 hre5' hre' hs6
    have r56:=za r5 hB6 hs5'
    have hBB:=hB5.trans (hB6.mono (by omega))
    have c7:=cs w6 hBB
    have hB7:=hB.trans (hBB.mono hB.size)
    clear cs hB5 hB6 r5 hBB
    go_wp2_with (first|(refine wpList_load_mid rfl 113 _ rfl _ _ rfl u _ r56 underlying113 rfl iu ?_)|(refine wpList_load_mid rfl 113 _ rfl _ _ rfl u' _ r6 underlying113 rfl iu' ?_))
    refine c7.mono ?_
    rintro e8 w8 ⟨rfl,hb8⟩
    have hB8:=hB7.trans (hb8.mono hB7.size)
    clear c7 hb8 r56 r6 hB7
    cases hb1
    ·have HF':=HF.out rfl
     clear HF HT hsb
     go_wp2
     go_ret
     exact⟨by rw[HF'];rfl,hB8⟩
    ·have HT':=hide (HT.out rfl)
     clear HF HT
     go_wp2
     go_roundw
     case rel=>exact⟨k+1,by omega,by go_num,HT',hB8⟩
     case measure=>simp[intOf];omega
   ·have k1:¬(k:Int)<xs.length:=by omega
    have HE:Hid (sb=true):=hide (by
     rw[←hsb.out]
     exact zdR HL.out (fun j hj=>HM.out j (by omega)))
    clear HM hsb
    go_wp2
    go_ret
    exact⟨by rw[HE.out];rfl,hB⟩
def chgL (a b c:Int) (x:Sl Hd):Array Value:=#[.int .i64 a,.int .i64 b,.int .i64 c,x.val]
def chgB (a b c:Int) (x:Sl Hd) (a' b' c':Int) (y:Sl Hd):Bool:=((a==a')&&((b==b')&&(c==c')))&&sameL Hd.B x.xs y.xs
theorem zjh (a b c:Int) (x:Sl Hd) (a' b' c':Int) (y:Sl Hd) (w:World) (hx:HdsAt w x) (hy:HdsAt w y):
  Calls prog 131 #[.agg (chgL a b c x),.agg (chgL a' b' c' y)] w fun e w'=>e=.returned (.bool (chgB a b c x a' b' c' y))∧Below w.heap.size w w':=by
 have hB:Below w.heap.size w ((w.alloc (.cells (chgL a b c x) 46)).alloc (.cells (chgL a' b' c' y) 46)):=((Below.refl _ w).alloc (Nat.le_refl _) _).alloc (by simp) _
 have ce:=zmd x y _ (hx.below hB) (hy.below hB)
 unfold chgB
 unfold chgL at hB ce ⊢
 generalize sameL Hd.B x.xs y.xs=sb at *
 obtain⟨xa,xc,xs⟩:=x
 obtain⟨ya,yc,ys⟩:=y
 simp only[Sl.val]at hB ce ⊢
 clear hx hy
 by_cases h1:a=a'
 rotate_left
 ·rw[show(a==a')=false from beq_eq_false_iff_ne.2 h1]
  have n1:(a !=a')=true:=bne_iff_ne.2 h1
  clear h1 ce
  go_enter func131,ntmps131
  go_wp2
  go_ret
  exact⟨rfl,hB⟩
 ·subst h1
  by_cases h2:b=b'
  rotate_left
  ·rw[show(b==b')=false from beq_eq_false_iff_ne.2 h2]
   have n1:(b !=b')=true:=bne_iff_ne.2 h2
   clear h2 ce
   go_enter func131,ntmps131
   go_wp2
   go_ret
   exact⟨by simp,hB⟩
  ·subst h2
   by_cases h3:c=c'
   rotate_left
   ·rw[show(c==c')=false from beq_eq_false_iff_ne.2 h3]
    have n1:(c !=c')=true:=bne_iff_ne.2 h3
    clear h3 ce
    go_enter func131,ntmps131
    go_wp2
    go_ret
    exact⟨by simp,hB⟩
   ·subst h3
    have E:(((a==a)&&((b==b)&&(c==c)))&&sb)=sb:=by simp
    rw[E]
    clear E
    go_enter func131,ntmps131
    go_wp2_with fail
    refine ce.mono ?_
    rintro e2 w2 ⟨rfl,hb2⟩
    have hB2:=hB.trans (hb2.mono hB.size)
    clear ce hb2
    go_wp2
    go_ret
    exact⟨rfl,hB2⟩
theorem zeR (X:Nat) (v:Value) (zs:List Int) (x:Vt) (w:World) (hx:x.ok) (h:WrAt w X v zs false) (hl:zs.length+(vtL x).length≤4194304):Calls prog 89 #[.pointer (some ⟨X,0,none⟩),.agg x.cells.toArray] w fun e w'=>WrOn X v zs (vtL x) w e w':=by
 have c:=zeS X v (zs,false) x w hx h (by show zs.length≤4194304;omega)
 unfold vtL at hl ⊢
 rw[List.length_append]at hl
 rw[zdu [x.k,x.e,x.v,x.s] zs (by omega)]at c
 have e:wrS (zs++[x.k,x.e,x.v,x.s].flatMap putL,false) x.d=(zs++[x.k,x.e,x.v,x.s].flatMap putL++x.d,false):=by
  unfold wrS
  simp only
  rw[zdj (by rw[List.length_append];omega),zbL]
 rw[e]at c
 exact c.mono (fun e w' ⟨v',q1,q2,q3,q4⟩=>⟨v',q1,by rw[←List.append_assoc];exact q2,q3,q4⟩)
theorem zfX {w:World} {a:Option Addr} {xs:List Rq} (h:RowsAt RqE w a xs):ReqsAt w a (xs.map BRq.of):=by
 refine⟨by rw[List.length_map];exact h.1,fun r hr=>?_,?_⟩
 ·obtain⟨y,hy,rfl⟩:=List.mem_map.1 hr
  have k:y.ok:=h.2.1 y hy
  exact⟨k.tl,k.tb,k.sl,k.cl,k.ch,k.nl,k.nh⟩
 ·rcases h.2.2 with q|⟨b,off,rfl,h1,h2⟩
  ·exact .inl (by rw[q];rfl)
  ·refine .inr ⟨b,off,rfl,h1,?_⟩
   have e:flatR (xs.map BRq.of)=xs.flatMap RqE.f:=by
    unfold flatR
    rw[List.flatMap_map]
    rfl
   rw[e]
   exact h2
theorem iszBa:(prog.info? 39).map (·.size)=some 2:=by kernel_rfl
theorem iszCe:(prog.info? 50).map (·.size)=some 37:=by kernel_rfl
theorem iszVo:(prog.info? 43).map (·.size)=some 36:=by kernel_rfl
theorem iszCh:(prog.info? 46).map (·.size)=some 4:=by kernel_rfl
theorem zA (w:World) (q:List Value) (t:TypeId):Below w.heap.size w (w.alloc (.cells q.toArray t))∧(w.alloc (.cells q.toArray t)).rangeAt w.heap.size 0 q∧w.heap.size<(w.alloc (.cells q.toArray t)).heap.size:=
 ⟨(Below.refl _ _).alloc (Nat.le_refl _) _,by simpa using zC w q.toArray t,by simp⟩
theorem zdw (X:Nat) (v:Value) (zs:List Int) (q:Bool) (x:Sl Rq) (w:World) (hx:x.At RqE w) (h:WrAt w X v zs false) (hn:x.xs.length≤200) (hs:∀r∈x.xs,r.s.size≤4000) (hl:zs.length+(batL q (x.xs.map BRq.of)).length≤4194304):Calls prog 88 #[.pointer (some ⟨X,0,none⟩),.agg #[.bool q,x.val]] w fun e w'=>WrOn X v zs (batL q (x.xs.map BRq.of)) w e w':=by
 obtain⟨a,cap,xs⟩:=x
 simp only[Sl.val]at*
 have hx:RowsAt RqE w a xs:=hx
 have cB:=fun w' (hb:Below w.heap.size w w')=>zm6 none 0 [] q a cap (xs.map BRq.of) w' (zaR w') (by simp) (zfX (hx.below hb)) (by rw[List.length_map];exact hn) (fun r hr=>by
  obtain⟨y,hy,rfl⟩:=List.mem_map.1 hr
  exact hs y hy)
 simp only[List.length_map,List.nil_append,List.length_nil]at cB
 unfold batV at cB
 generalize batL q (xs.map BRq.of)=bs at *
 obtain⟨hB1,hR1,hs1⟩:=zA w [.bool q,.slice a xs.length cap] 39
 go_enter func88,ntmps88
 go_upto_region 1 with fail
 obtain⟨w1,hw1⟩:∃W,w.alloc (.cells ([.bool q,.slice a xs.length cap]).toArray 39)=W:=⟨_,rfl⟩
 rw[hw1]at hB1 hR1 hs1 ⊢
 have h1:=h.below hB1
 have hXl:=h.lt
 clear hw1
 refine pl_b ?_
 refine pl_a 4 ?_
 refine pl_v 5 (.agg [.bool q,.slice a xs.length cap].toArray) (zm rfl rfl hR1 underlying39 rfl iszBa) ?_
 refine pl_c 6 ?_
 refine(cB w1 hB1).mono ?_
 rintro _ w2 ⟨v2,rfl,hM,hB2⟩
 refine⟨_,rfl,?_⟩
 simp only[nz]
 obtain⟨a2,cap2,rfl,_,_,hrw⟩:=hM.rowAt (by unfold maxLen;omega)
 have hMf:=hM.fresh
 have h2:=h1.below hB2
 have c2:=zcd X v zs a2 cap2 bs w2 h2 hrw (.inr (fun x hx=>by have:=hMf x hx;have:=h1.lt;omega)) hl
 clear hM hMf hrw cB
 refine pl_c 7 ?_
 refine(c2).mono ?_
 rintro _ w3 hfin
 have HF:=hide (WrOn.from (hB1.trans (hB2.mono hB1.size)) hfin)
 obtain⟨v3,rfl,g1,g2,g3⟩:=hfin
 refine⟨_,rfl,?_⟩
 simp only[nz]
 refine zb ?_
 go_wp2_with fail
 go_end0
 exact HF.out
theorem zix (X:Nat) (v:Value) (zs:List Int) (g:Ev) (hg:g.ok) (hs:g.s.size≤1000000) (w:World) (h:WrAt w X v zs false) (hl:zs.length+(evL g).length≤4194304):Calls prog 92 #[.pointer (some ⟨X,0,none⟩),.agg g.cells.toArray] w fun e w'=>WrOn X v zs (evL g) w e w':=by
 obtain⟨n,st,t⟩:=g
 have ht16:t.length=16:=hg.tl
 have htb:=hg.tb
 have hn:n≤9223372036854775807:=hg.nh
 have hs:st.size≤1000000:=hs
 have hcell:(Ev.mk n st t).cells=.int .i64 n::.string st::v8 t:=rfl
 unfold evL at hl ⊢
 simp only[List.length_append]at hl ⊢
 rw[hcell]
 obtain⟨q,hq⟩:∃q,Hid ((.int .i64 n::.string st::v8 t:List Value)=q):=⟨_,hide rfl⟩
 have q0:q[0]? =some (.int .i64 n):=by rw[←hq.out];rfl
 have q1:q[1]? =some (.string st):=by rw[←hq.out];rfl
 have q2:∀{w':World} {b:Nat},w'.rangeAt b 0 q→w'.rangeAt b 2 (v8 t):=fun hr j u hj=>by
  rw[←hq.out]at hr
  have:=hr (2+j) u (by rw[Nat.add_comm];exact hj)
  rwa [Nat.zero_add]at this
 rw[hq.out]
 clear hq hcell
 obtain⟨hB1,hR1,hs1⟩:=zA w q 25
 go_enter func92,ntmps92
 go_upto_region 1 with fail
 obtain⟨w1,hw1⟩:∃W,w.alloc (.cells (q).toArray 25)=W:=⟨_,rfl⟩
 rw[hw1]at hB1 hR1 hs1 ⊢
 have h1:=h.below hB1
 have hXl:=h.lt
 clear hw1
 have cc0:=hR1 0 _ q0
 simp only[Nat.add_zero]at cc0
 refine pl_b ?_
 refine pl_a 4 ?_
 refine pl_a 5 ?_
 refine pl_v 6 (.int .i64 n) (zf rfl rfl cc0 underlying3 rfl) ?_
 refine pl_r 7 (.slice (some ⟨w1.heap.size,0,none⟩) 1 1) (w1.alloc (.cells #[.int .i64 n] 3)) (zav rfl rfl (zaA n _)) ?_
 refine pl_c 8 ?_
 refine(zak X v zs [n] _ 1 w1 h1 rfl rfl (by omega) (zaz hn) (by simp;omega)).mono ?_
 rintro _ w2 ⟨v2,rfl,hW2,hO2,hr2⟩
 refine⟨_,rfl,?_⟩
 simp only[nz]
 refine zb ?_
 have hR2:=zae h hs1 hO2 hR1
 have T:=zF (Off.of_below hB1) (zar w v) hO2 hr2
 have hs2:=hO2.size
 have hW2:WrAt w2 X v2 (zs++putL n) false:=by simpa using hW2
 have cT:=zeT X v2 (zs++putL n) st w2 hW2 hs (by simp only[List.length_append];omega)
 have cc1:=hR2 1 _ q1
 simp only[Nat.zero_add]at cc1
 go_upto_region 2 with fail
 refine pl_b ?_
 refine pl_a 9 ?_
 refine pl_a 10 ?_
 refine pl_v 11 (.string st) (zf rfl rfl cc1 underlying9 rfl) ?_
 refine pl_c 12 ?_
 refine(cT).mono ?_
 rintro _ w3 hfin
 obtain⟨v3,rfl,hW3,hO3,hr3⟩:=hfin
 refine⟨_,rfl,?_⟩
 simp only[nz]
 refine zb ?_
 have T3:=zF hO2 hr2 hO3 hr3
 have hR3:=q2 (zae h hs1 T3.1 hR1)
 have T:=zF T.1 T.2 hO3 hr3
 have hs3:=hO3.size
 obtain⟨Z,hZ⟩:∃Z,Hid (w.heap.size=Z):=⟨_,hide rfl⟩
 have hZX:Z≠X:=by rw[←hZ.out];omega
 have hZ3:Z<w3.heap.size:=by rw[←hZ.out];omega
 rw[hZ.out]at hR3 ⊢
 have hrow:RowAt w3 (some ⟨Z,2,none⟩) t:=⟨by rw[ht16];decide,htb,.inr ⟨_,_,rfl,hZ3,hR3⟩⟩
 have cr:=zcd X v3 (zs++putL n++textL st) (some ⟨Z,2,none⟩) 16 t w3 hW3 hrow (.inr (fun x hx=>by cases hx;exact hZX)) (by simp only[List.length_append];omega)
 rw[show t.length=16 from ht16]at cr
 clear hR2 cc0 cc1 hR1
 go_wp2_with fail
 refine cr.mono ?_
 intro _ w4 hfin
 obtain⟨v4,rfl,g1,g2,g3⟩:=hfin
 have T:=zF T.1 T.2 g2 g3
 have HF:=hide (show WrOn X v zs (putL n++(textL st++t)) w (.returned (.tuple #[])) w4 from⟨v4,rfl,by simpa [List.append_assoc]using g1,T.1,T.2⟩)
 go_wp2_with fail
 go_end0
 exact HF.out
theorem ze3 (X:Nat) (v:Value) (zs:List Int) (x:Vt) (sg:Sl Sg) (w0 w:World) (hx:x.ok) (hsg:sg.At SgE w0) (hb:Below w0.heap.size w0 w) (hX:w0.heap.size≤X) (hsl:sg.xs.length≤1000) (h:WrAt w X v zs false) (hl:zs.length+(ctL x sg.xs).length≤4194304):Calls prog 94 #[.pointer (some ⟨X,0,none⟩),.agg (certL x sg).toArray] w fun e w'=>WrOn X v zs (ctL x sg.xs) w e w':=by
 have hx36:=hx.len
 have hix:(prog.info? 43).map (·.size)=some x.cells.length:=by rw[hx36];exact iszVo
 unfold ctL at hl ⊢
 rw[List.length_append]at hl
 have cV:=fun w' (h':WrAt w' X v zs false)=>zeR X v zs x w' hx h' (by omega)
 have cG:=fun v' w' (hb':Below w0.heap.size w0 w') (h':WrAt w' X v' (zs++vtL x) false)=>ze0 X v' (zs++vtL x) sg w0 w' hsg hb' hX h' hsl (fun g hg v2 zs2 w2 _ h2 hl2=>zeV X v2 zs2 g (hsg.2.1 g hg) w2 h2 hl2) (by rw[List.length_append];exact(by unfold sgsL at hl;omega))
 have q36:∀{w':World} {b:Nat},w'.rangeAt b 0 (certL x sg)→w'.rangeAt b 0 x.cells∧w'.cell? ⟨b,36,none⟩=some sg.val:=fun hr=>by
  have r1:=zI hr
  have r2:=zO hr
  rw[hx36]at r2
  have:=r2 0 _ rfl
  exact⟨r1,by simpa using this⟩
 obtain⟨q,hq⟩:∃q,Hid (certL x sg=q):=⟨_,hide rfl⟩
 rw[hq.out]
 simp only[hq.out]at q36
 unfold sgsL at *
 generalize x.cells=u at *
 generalize vtL x=bv at *
 generalize putL (sg.xs.length:Int)++sg.xs.flatMap sgL=bg at *
 obtain⟨a,cap,xs⟩:=sg
 simp only[Sl.val]at*
 obtain⟨hB1,hR1,hs1⟩:=zA w q 50
 go_enter func94,ntmps94
 go_upto_region 1 with fail
 obtain⟨w1,hw1⟩:∃W,w.alloc (.cells (q).toArray 50)=W:=⟨_,rfl⟩
 rw[hw1]at hB1 hR1 hs1 ⊢
 have h1:=h.below hB1
 have hXl:=h.lt
 clear hw1
 have cV1:=cV w1 h1
 refine pl_b ?_
 refine pl_a 4 ?_
 refine pl_a 5 ?_
 refine pl_v 6 (.agg u.toArray) (zm rfl rfl (q36 hR1).1 underlying43 rfl hix) ?_
 refine pl_c 7 ?_
 refine(cV1).mono ?_
 rintro _ w2 ⟨v2,rfl,hW2,hO2,hr2⟩
 refine⟨_,rfl,?_⟩
 simp only[nz]
 refine zb ?_
 have hR2:=zae h hs1 hO2 hR1
 have T:=zF (Off.of_below hB1) (zar w v) hO2 hr2
 have hb2:=hb.trans (zad h hX T.1)
 have cG2:=cG v2 w2 hb2 hW2
 clear cV cG cV1
 go_upto_region 2 with fail
 refine pl_b ?_
 refine pl_a 8 ?_
 refine pl_a 9 ?_
 refine pl_v 10 (.slice a xs.length cap) (zf rfl rfl (q36 hR2).2 underlying48 rfl) ?_
 refine pl_a 11 ?_
 refine pl_a 12 ?_
 refine pl_c 13 ?_
 refine(cG2).mono ?_
 rintro _ w3 hfin
 have HF:=hide (WrOn.next T.1 T.2 hfin)
 obtain⟨v3,rfl,g1,g2,g3⟩:=hfin
 refine⟨_,rfl,?_⟩
 simp only[nz]
 refine zb ?_
 go_wp2_with fail
 go_end0
 exact HF.out
theorem ziw (X:Nat) (v:Value) (zs:List Int) (g:Hd) (w0 w:World) (hx:g.vt.ok) (hg:g.At w0) (hb:Below w0.heap.size w0 w) (hX:w0.heap.size≤X) (hsl:g.sg.xs.length≤1000) (hn:g.rs.xs.length≤200) (hs:∀r∈g.rs.xs,r.s.size≤4000) (h:WrAt w X v zs false) (hl:zs.length+(hdL g).length≤4194304):Calls prog 145 #[.pointer (some ⟨X,0,none⟩),.agg g.cells.toArray] w fun e w'=>WrOn X v zs (hdL g) w e w':=by
 obtain⟨qb,rs,vt,sg⟩:=g
 have hx:vt.ok:=hx
 have hr0:rs.At RqE w0:=hg.1
 have hs0:sg.At SgE w0:=hg.2
 simp only at *
 unfold hdL at hl ⊢
 simp only[List.length_append]at hl
 simp only
 have cB:=fun w' (hb':Below w0.heap.size w0 w') (h':WrAt w' X v zs false)=>zdw X v zs qb rs w' (hr0.below hb') h' hn hs (by omega)
 have cC:=fun v' w' (hb':Below w0.heap.size w0 w') (h':WrAt w' X v' (zs++batL qb (rs.xs.map BRq.of)) false)=>ze3 X v' (zs++batL qb (rs.xs.map BRq.of)) vt sg w0 w' hx hs0 hb' hX hsl h' (by rw[List.length_append];omega)
 have hcell:(Hd.mk qb rs vt sg).cells=[.bool qb,rs.val]++certL vt sg:=rfl
 rw[hcell]
 have hc37:(certL vt sg).length=37:=by simp[certL,hx.len]
 have hic:(prog.info? 50).map (·.size)=some (certL vt sg).length:=by rw[hc37];exact iszCe
 obtain⟨c,hc⟩:∃c,Hid (certL vt sg=c):=⟨_,hide rfl⟩
 simp only[hc.out]at cC hic ⊢
 generalize batL qb (rs.xs.map BRq.of)=bb at *
 generalize ctL vt sg.xs=bc at *
 obtain⟨a,cap,xs⟩:=rs
 simp only[Sl.val]at*
 have hrr:∀{w':World} {b:Nat},w'.rangeAt b 0 ([.bool qb,.slice a xs.length cap]++c)→w'.rangeAt b 0 [.bool qb,.slice a xs.length cap]∧w'.rangeAt b 2 c:=fun hr=>⟨zI hr,by simpa using zO hr⟩
 obtain⟨q,hq⟩:∃q,Hid (([.bool qb,.slice a xs.length cap]++c:List Value)=q):=⟨_,hide rfl⟩
 rw[hq.out]
 simp only[hq.out]at hrr
 clear hq hcell hc hc37
 obtain⟨hB1,hR1,hs1⟩:=zA w q 113
 go_enter func145,ntmps145
 go_upto_region 1 with fail
 obtain⟨w1,hw1⟩:∃W,w.alloc (.cells (q).toArray 113)=W:=⟨_,rfl⟩
 rw[hw1]at hB1 hR1 hs1 ⊢
 have h1:=h.below hB1
 have hXl:=h.lt
 clear hw1
 have cB1:=cB w1 (hb.trans (hB1.mono hb.size)) h1
 refine pl_b ?_
 refine pl_a 4 ?_
 refine pl_a 5 ?_
 refine pl_v 6 (.agg [.bool qb,.slice a xs.length cap].toArray) (zm rfl rfl (hrr hR1).1 underlying39 rfl iszBa) ?_
 refine pl_c 7 ?_
 refine(cB1).mono ?_
 rintro _ w2 ⟨v2,rfl,hW2,hO2,hr2⟩
 refine⟨_,rfl,?_⟩
 simp only[nz]
 refine zb ?_
 have hR2:=zae h hs1 hO2 hR1
 have T:=zF (Off.of_below hB1) (zar w v) hO2 hr2
 have hb2:=hb.trans (zad h hX T.1)
 have cC2:=cC v2 w2 hb2 hW2
 clear cB cC cB1
 go_upto_region 2 with fail
 refine pl_b ?_
 refine pl_a 8 ?_
 refine pl_a 9 ?_
 refine pl_v 10 (.agg c.toArray) (zm rfl rfl (hrr hR2).2 underlying50 rfl hic) ?_
 refine pl_c 11 ?_
 refine(cC2).mono ?_
 rintro _ w3 hfin
 have HF:=hide (WrOn.next T.1 T.2 hfin)
 obtain⟨v3,rfl,g1,g2,g3⟩:=hfin
 refine⟨_,rfl,?_⟩
 simp only[nz]
 refine zb ?_
 go_wp2_with fail
 go_end0
 exact HF.out
theorem ziy (X:Nat) (v:Value) (zs:List Int) (e l vw:Int) (x:Sl Hd) (w0 w:World) (he:e≤9223372036854775807) (hle:l≤9223372036854775807) (hv:vw≤9223372036854775807) (hx:HdsAt w0 x) (hb:Below w0.heap.size w0 w) (hX:w0.heap.size≤X) (hxl:x.xs.length≤1000) (hq:∀g∈x.xs,g.sg.xs.length≤1000∧g.rs.xs.length≤200∧∀r∈g.rs.xs,r.s.size≤4000) (h:WrAt w X v zs false) (hl:zs.length+([e,l,vw].flatMap putL++hdsL x.xs).length≤4194304):Calls prog 90 #[.pointer (some ⟨X,0,none⟩),.agg #[.int .i64 e,.int .i64 l,.int .i64 vw,x.val]] w fun e' w'=>WrOn X v zs ([e,l,vw].flatMap putL++hdsL x.xs) w e' w':=by
 rw[List.length_append]at hl
 have cH:=fun v' w' (hb':Below w0.heap.size w0 w') (h':WrAt w' X v' (zs++[e,l,vw].flatMap putL) false)=>ziu X v' (zs++[e,l,vw].flatMap putL) x w0 w' hx.1 hb' hX h' hxl (fun g hg v2 zs2 w2 hb2 h2 hl2=>ziw X v2 zs2 g w0 w2 (hx.1.2.1 g hg) (hx.2 g hg) hb2 hX (hq g hg).1 (hq g hg).2.1 (hq g hg).2.2 h2 hl2) (by rw[List.length_append];exact(by unfold hdsL at hl;omega))
 have cN:=fun w' (h':WrAt w' X v zs false)=>zak X v zs [e,l,vw] #[.int .i64 e,.int .i64 l,.int .i64 vw] 3 w' h' rfl rfl (by omega) (by
  intro n hn
  simp only[List.mem_cons,List.not_mem_nil,or_false]at hn
  rcases hn with rfl|rfl|rfl<;>assumption) (by omega)
 generalize [e,l,vw].flatMap putL=b1 at *
 unfold hdsL at *
 generalize putL (x.xs.length:Int)++x.xs.flatMap hdL=b2 at *
 obtain⟨a,cap,xs⟩:=x
 simp only[Sl.val]at*
 obtain⟨hB1,hR1,hs1⟩:=zA w [.int .i64 e,.int .i64 l,.int .i64 vw,.slice a xs.length cap] 46
 go_enter func90,ntmps90
 go_upto_region 1 with fail
 obtain⟨w1,hw1⟩:∃W,w.alloc (.cells ([.int .i64 e,.int .i64 l,.int .i64 vw,.slice a xs.length cap]).toArray 46)=W:=⟨_,rfl⟩
 rw[hw1]at hB1 hR1 hs1 ⊢
 have h1:=h.below hB1
 have hXl:=h.lt
 clear hw1
 have cN1:=cN w1 h1
 have d0:=hR1 0 _ rfl
 have d1:=hR1 1 _ rfl
 have d2:=hR1 2 _ rfl
 simp only[Nat.zero_add,Nat.add_zero]at d0 d1 d2
 refine pl_b ?_
 refine pl_a 4 ?_
 refine pl_a 5 ?_
 refine pl_v 6 (.int .i64 e) (zf rfl rfl d0 underlying3 rfl) ?_
 refine pl_a 7 ?_
 refine pl_v 8 (.int .i64 l) (zf rfl rfl d1 underlying3 rfl) ?_
 refine pl_a 9 ?_
 refine pl_v 10 (.int .i64 vw) (zf rfl rfl d2 underlying3 rfl) ?_
 refine pl_r 11 (.slice (some ⟨w1.heap.size,0,none⟩) 3 3) (w1.alloc (.cells #[.int .i64 e,.int .i64 l,.int .i64 vw] 3)) (zhe rfl rfl rfl rfl (zfJ e l vw _)) ?_
 refine pl_c 12 ?_
 refine(cN1).mono ?_
 rintro _ w2 ⟨v2,rfl,hW2,hO2,hr2⟩
 refine⟨_,rfl,?_⟩
 simp only[nz]
 refine zb ?_
 have hR2:=zae h hs1 hO2 hR1
 have T:=zF (Off.of_below hB1) (zar w v) hO2 hr2
 have hb2:=hb.trans (zad h hX T.1)
 have cH2:=cH v2 w2 hb2 hW2
 have d3:=hR2 3 _ rfl
 simp only[Nat.zero_add]at d3
 clear cH cN cN1
 go_upto_region 2 with fail
 refine pl_b ?_
 refine pl_a 13 ?_
 refine pl_a 14 ?_
 refine pl_v 15 (.slice a xs.length cap) (zf rfl rfl d3 underlying44 rfl) ?_
 refine pl_a 16 ?_
 refine pl_a 17 ?_
 refine pl_c 18 ?_
 refine(cH2).mono ?_
 rintro _ w3 hfin
 have HF:=hide (WrOn.next T.1 T.2 hfin)
 obtain⟨v3,rfl,g1,g2,g3⟩:=hfin
 refine⟨_,rfl,?_⟩
 simp only[nz]
 refine zb ?_
 go_wp2_with fail
 go_end0
 exact HF.out
theorem zcE {P:Program} {ops:Array Oper} {rest:List Oper} {op:Oper} {a:Act} {w:World} {Q:Exit→Act→World→Prop} (hgd:Region.wanted op (yielded ops a.tmps)=true) (t t2:TypeId) (x y:Operand) (ho:op.op=.binOp .neq t x y t2) (sa sb:ByteArray) (hx:a.eval x=.string sa) (hy:a.eval y=.string sb) (b:Bool) (hb:(sa.toList !=sb.toList)=b)
  (h:wpList P ops Q rest (a.put op.dst (.bool b)) w):wpList P ops Q (op::rest) a w:=
 wpList_step fun K hK=>by
  rw[if_pos hgd]
  unfold Oper.wp execOp
  subst hb
  simp only[ho,hx,hy,binOp_string_neq,Sem.run_bind,Sem.run_pure]
  exact hK _ _ h
structure Mg where
 k:Int
 e:Int
 l:Int
 v:Int
 s:Int
 q:Bool
 rs:Sl Rq
 vt:Vt
 ce:Int
 cl:Int
 cv:Int
 he:Sl Hd
 ne:Sl Ev
 d:List Int
 ct:Vt
 cs:Sl Sg
 st:ByteArray
 sg:Sl Sg
def Mg.ms (m:Mg):Ms:=⟨m.k,m.e,m.l,m.v,m.s,m.q,m.rs.val,m.vt,m.ce,m.cl,m.cv,m.he.val,m.ne.val,m.d,m.ct,m.cs.val,m.st,m.sg.val⟩
structure Mg.ok (m:Mg):Prop where
 vt:m.vt.ok
 ct:m.ct.ok
 dl:m.d.length=32
 db:∀z∈m.d,0≤z∧z<256
theorem Mg.ok.ms {m:Mg} (h:m.ok):m.ms.ok:=⟨h.vt,h.ct,h.dl,h.db,rfl,rfl,rfl,rfl,rfl⟩
structure Mg.At (m:Mg) (w:World):Prop where
 rs:m.rs.At RqE w
 he:HdsAt w m.he
 ne:m.ne.At EvE w
 cs:m.cs.At SgE w
 sg:m.sg.At SgE w
theorem Mg.At.below {m:Mg} {w w':World} (h:m.At w) (hb:Below w.heap.size w w'):m.At w':=⟨h.rs.below hb,h.he.below hb,h.ne.below hb,h.cs.below hb,h.sg.below hb⟩
def Mg.nB (a b:Mg):Bool:=(a.k==b.k)&&((a.e==b.e)&&((a.l==b.l)&&((a.v==b.v)&&(a.s==b.s))))
def Mg.fB (a b:Mg):Bool:=vtB a.vt b.vt&&((a.d==b.d)&&(a.st.toList==b.st.toList))
def Mg.lB (a b:Mg):Bool:=batB a.q a.rs b.q b.rs&&(chgB a.ce a.cl a.cv a.he b.ce b.cl b.cv b.he&&(sameL Ev.B a.ne.xs b.ne.xs&&(certB a.ct a.cs b.ct b.cs&&sameL Sg.B a.sg.xs b.sg.xs)))
def Mg.B (a b:Mg):Bool:=Mg.nB a b&&(Mg.fB a b&&Mg.lB a b)
theorem zgF (a b:Mg) (w:World) (oa:a.ok) (ob:b.ok) (ha:a.At w) (hb:b.At w):Calls prog 84 #[.agg a.ms.cells.toArray,.agg b.ms.cells.toArray] w fun er w'=>er=.returned (.bool (Mg.B a b))∧Below w.heap.size w w':=by
 obtain⟨hA,hA',hB,hs⟩:=zbN a.ms.cells b.ms.cells 52 w
 obtain⟨W,hW⟩:∃W,Hid ((w.alloc (.cells a.ms.cells.toArray 52)).alloc (.cells b.ms.cells.toArray 52)=W):=⟨_,hide rfl⟩
 rw[hW.out]at hA hA' hB hs
 have M:=oa.ms.at hA
 have M':=ob.ms.at hA'
 have ix:(prog.info? 43).map (·.size)=some a.vt.cells.length:=by rw[oa.vt.len];exact iszV
 have iy:(prog.info? 43).map (·.size)=some b.vt.cells.length:=by rw[ob.vt.len];exact iszV
 have id:(prog.info? 41).map (·.size)=some (v8 a.d).length:=by rw[v8_length,oa.dl];exact iszD
 have id':(prog.info? 41).map (·.size)=some (v8 b.d).length:=by rw[v8_length,ob.dl];exact iszD
 have ic:(prog.info? 50).map (·.size)=some (certL a.ct a.cs).length:=by rw[show(certL a.ct a.cs).length=37 by simp[certL,oa.ct.len]];exact iszC
 have ic':(prog.info? 50).map (·.size)=some (certL b.ct b.cs).length:=by rw[show(certL b.ct b.cs).length=37 by simp[certL,ob.ct.len]];exact iszC
 have hq:=eqInV a.vt b.vt oa.vt.dl ob.vt.dl
 have hq2:=eqInD a.d b.d oa.dl ob.dl
 have gB:=fun w0 k1 k2=>zhJ a.q a.rs b.q b.rs w0 k1 k2
 have gC:=fun w0 k1 k2=>zjh a.ce a.cl a.cv a.he b.ce b.cl b.cv b.he w0 k1 k2
 have gN:=fun w0 k1 k2=>zma a.ne.a a.ne.cap a.ne.xs b.ne.a b.ne.cap b.ne.xs w0 k1 k2
 have gT:=fun w0 k1 k2=>zfE a.ct b.ct a.cs b.cs w0 oa.ct ob.ct k1 k2
 have gS:=fun w0 k1 k2=>zhj a.sg.a a.sg.cap a.sg.xs b.sg.a b.sg.cap b.sg.xs w0 k1 k2
 have a1:=ha.below hB
 have b1:=hb.below hB
 have cK:W.cell? ⟨w.heap.size,0,none⟩=some (.int .i64 a.k):=M.k
 have cE:W.cell? ⟨w.heap.size,1,none⟩=some (.int .i64 a.e):=M.e
 have cL:W.cell? ⟨w.heap.size,2,none⟩=some (.int .i64 a.l):=M.l
 have cV:W.cell? ⟨w.heap.size,3,none⟩=some (.int .i64 a.v):=M.v
 have cS:W.cell? ⟨w.heap.size,4,none⟩=some (.int .i64 a.s):=M.s
 have cQ:W.cell? ⟨w.heap.size,5,none⟩=some (.bool a.q):=M.q
 have cR:W.cell? ⟨w.heap.size,6,none⟩=some (.slice a.rs.a a.rs.xs.length a.rs.cap):=M.rs
 have c1:W.cell? ⟨w.heap.size,43,none⟩=some (.int .i64 a.ce):=M.ce
 have c2:W.cell? ⟨w.heap.size,44,none⟩=some (.int .i64 a.cl):=M.cl
 have c3:W.cell? ⟨w.heap.size,45,none⟩=some (.int .i64 a.cv):=M.cv
 have cH:W.cell? ⟨w.heap.size,46,none⟩=some (.slice a.he.a a.he.xs.length a.he.cap):=M.he
 have cN:W.cell? ⟨w.heap.size,47,none⟩=some (.slice a.ne.a a.ne.xs.length a.ne.cap):=M.ne
 have cT:W.cell? ⟨w.heap.size,117,none⟩=some (.string a.st):=M.st
 have cG:W.cell? ⟨w.heap.size,118,none⟩=some (.slice a.sg.a a.sg.xs.length a.sg.cap):=M.sg
 have rV:W.rangeAt (w.heap.size) 7 a.vt.cells:=M.vt
 have rD:W.rangeAt (w.heap.size) 48 (v8 a.d):=M.d
 have rC:W.rangeAt (w.heap.size) 80 (certL a.ct a.cs):=M.ct
 have cK':W.cell? ⟨w.heap.size+1,0,none⟩=some (.int .i64 b.k):=M'.k
 have cE':W.cell? ⟨w.heap.size+1,1,none⟩=some (.int .i64 b.e):=M'.e
 have cL':W.cell? ⟨w.heap.size+1,2,none⟩=some (.int .i64 b.l):=M'.l
 have cV':W.cell? ⟨w.heap.size+1,3,none⟩=some (.int .i64 b.v):=M'.v
 have cS':W.cell? ⟨w.heap.size+1,4,none⟩=some (.int .i64 b.s):=M'.s
 have cQ':W.cell? ⟨w.heap.size+1,5,none⟩=some (.bool b.q):=M'.q
 have cR':W.cell? ⟨w.heap.size+1,6,none⟩=some (.slice b.rs.a b.rs.xs.length b.rs.cap):=M'.rs
 have c1':W.cell? ⟨w.heap.size+1,43,none⟩=some (.int .i64 b.ce):=M'.ce
 have c2':W.cell? ⟨w.heap.size+1,44,none⟩=some (.int .i64 b.cl):=M'.cl
 have c3':W.cell? ⟨w.heap.size+1,45,none⟩=some (.int .i64 b.cv):=M'.cv
 have cH':W.cell? ⟨w.heap.size+1,46,none⟩=some (.slice b.he.a b.he.xs.length b.he.cap):=M'.he
 have cN':W.cell? ⟨w.heap.size+1,47,none⟩=some (.slice b.ne.a b.ne.xs.length b.ne.cap):=M'.ne
 have cT':W.cell? ⟨w.heap.size+1,117,none⟩=some (.string b.st):=M'.st
 have cG':W.cell? ⟨w.heap.size+1,118,none⟩=some (.slice b.sg.a b.sg.xs.length b.sg.cap):=M'.sg
 have rV':W.rangeAt (w.heap.size+1) 7 b.vt.cells:=M'.vt
 have rD':W.rangeAt (w.heap.size+1) 48 (v8 b.d):=M'.d
 have rC':W.rangeAt (w.heap.size+1) 80 (certL b.ct b.cs):=M'.ct
 unfold chgL at gC
 simp only[Sl.val]at gB gC
 unfold Mg.B Mg.nB Mg.fB Mg.lB
 have A1:=a1.rs
 have A2:=a1.he
 have A3:RowsAt EvE W a.ne.a a.ne.xs:=a1.ne
 have A4:=a1.cs
 have A5:RowsAt SgE W a.sg.a a.sg.xs:=a1.sg
 have B1:=b1.rs
 have B2:=b1.he
 have B3:RowsAt EvE W b.ne.a b.ne.xs:=b1.ne
 have B4:=b1.cs
 have B5:RowsAt SgE W b.sg.a b.sg.xs:=b1.sg
 clear hA hA' M M' oa ob ha hb a1 b1
 generalize batB a.q a.rs b.q b.rs=b1 at *
 generalize chgB a.ce a.cl a.cv a.he b.ce b.cl b.cv b.he=b2 at *
 generalize sameL Ev.B a.ne.xs b.ne.xs=b3 at *
 generalize certB a.ct a.cs b.ct b.cs=b4 at *
 generalize sameL Sg.B a.sg.xs b.sg.xs=b5 at *
 generalize a.ms.cells=q at *
 generalize b.ms.cells=q' at *
 generalize hgu:a.vt.cells=u at *
 generalize hgu':b.vt.cells=u' at *
 generalize hgd:v8 a.d=ud at *
 generalize hgd':v8 b.d=ud' at *
 generalize certL a.ct a.cs=uc at *
 generalize certL b.ct b.cs=uc' at *
 generalize vtB a.vt b.vt=vb at *
 generalize (a.d==b.d)=db at *
 clear hgu hgu' hgd hgd'
 obtain⟨k,e,l,v,s,qq,⟨ra,rc,rx⟩,vt,ce,cl,cv,⟨ha,hc,hx⟩,⟨na,nc,nx⟩,d,ct,cs,st,⟨ga,gc,gx⟩⟩:=a
 obtain⟨k',e',l',v',s',qq',⟨ra',rc',rx'⟩,vt',ce',cl',cv',⟨ha',hc',hx'⟩,⟨na',nc',nx'⟩,d',ct',cs',st',⟨ga',gc',gx'⟩⟩:=b
 simp only at *
 by_cases h_k:k=k'
 rotate_left
 ·rw[show(k==k')=false from beq_eq_false_iff_ne.2 h_k]
  have n1:(k !=k')=true:=bne_iff_ne.2 h_k
  clear h_k rV rV' rD rD' cT cT' hq hq2 ix iy id id'
  clear gB gC gN gT gS A1 A2 A3 A4 A5 B1 B2 B3 B4 B5 rC rC' cQ cR cQ' cR' c1 c2 c3 cH c1' c2' c3' cH' cN cN' cG cG' ic ic'
  go_enter func84,ntmps84
  go_upto_region 1 with fail
  go_name_world w1 hw1
  obtain rfl:W=w1:=hW.out.symm.trans hw1
  clear hw1 hW
  go_wp2
  go_ret
  exact⟨by simp,hB⟩
 ·subst h_k
  by_cases h_e:e=e'
  rotate_left
  ·rw[show(e==e')=false from beq_eq_false_iff_ne.2 h_e]
   have n1:(e !=e')=true:=bne_iff_ne.2 h_e
   clear h_e rV rV' rD rD' cT cT' hq hq2 ix iy id id'
   clear gB gC gN gT gS A1 A2 A3 A4 A5 B1 B2 B3 B4 B5 rC rC' cQ cR cQ' cR' c1 c2 c3 cH c1' c2' c3' cH' cN cN' cG cG' ic ic'
   go_enter func84,ntmps84
   go_upto_region 1 with fail
   go_name_world w1 hw1
   obtain rfl:W=w1:=hW.out.symm.trans hw1
   clear hw1 hW
   go_wp2
   go_ret
   exact⟨by simp,hB⟩
  ·subst h_e
   by_cases h_l:l=l'
   rotate_left
   ·rw[show(l==l')=false from beq_eq_false_iff_ne.2 h_l]
    have n1:(l !=l')=true:=bne_iff_ne.2 h_l
    clear h_l rV rV' rD rD' cT cT' hq hq2 ix iy id id'
    clear gB gC gN gT gS A1 A2 A3 A4 A5 B1 B2 B3 B4 B5 rC rC' cQ cR cQ' cR' c1 c2 c3 cH c1' c2' c3' cH' cN cN' cG cG' ic ic'
    go_enter func84,ntmps84
    go_upto_region 1 with fail
    go_name_world w1 hw1
    obtain rfl:W=w1:=hW.out.symm.trans hw1
    clear hw1 hW
    go_wp2
    go_ret
    exact⟨by simp,hB⟩
   ·subst h_l
    by_cases h_v:v=v'
    rotate_left
    ·rw[show(v==v')=false from beq_eq_false_iff_ne.2 h_v]
     have n1:(v !=v')=true:=bne_iff_ne.2 h_v
     clear h_v rV rV' rD rD' cT cT' hq hq2 ix iy id id'
     clear gB gC gN gT gS A1 A2 A3 A4 A5 B1 B2 B3 B4 B5 rC rC' cQ cR cQ' cR' c1 c2 c3 cH c1' c2' c3' cH' cN cN' cG cG' ic ic'
     go_enter func84,ntmps84
     go_upto_region 1 with fail
     go_name_world w1 hw1
     obtain rfl:W=w1:=hW.out.symm.trans hw1
     clear hw1 hW
     go_wp2
     go_ret
     exact⟨by simp,hB⟩
    ·subst h_v
     by_cases h_s:s=s'
     rotate_left
     ·rw[show(s==s')=false from beq_eq_false_iff_ne.2 h_s]
      have n1:(s !=s')=true:=bne_iff_ne.2 h_s
      clear h_s rV rV' rD rD' cT cT' hq hq2 ix iy id id'
      clear gB gC gN gT gS A1 A2 A3 A4 A5 B1 B2 B3 B4 B5 rC rC' cQ cR cQ' cR' c1 c2 c3 cH c1' c2' c3' cH' cN cN' cG cG' ic ic'
      go_enter func84,ntmps84
      go_upto_region 1 with fail
      go_name_world w1 hw1
      obtain rfl:W=w1:=hW.out.symm.trans hw1
      clear hw1 hW
      go_wp2
      go_ret
      exact⟨by simp,hB⟩
     ·subst h_s
      have EN:((k==k)&&((e==e)&&((l==l)&&((v==v)&&(s==s)))))=true:=by simp
      rw[EN,Bool.true_and]
      clear EN
      cases vb
      ·rw[Bool.false_and,Bool.false_and]
       clear cT cT' hq2 id id' rD rD'
       clear gB gC gN gT gS A1 A2 A3 A4 A5 B1 B2 B3 B4 B5 rC rC' cQ cR cQ' cR' c1 c2 c3 cH c1' c2' c3' cH' cN cN' cG cG' ic ic'
       go_enter func84,ntmps84
       go_upto_region 1 with fail
       go_name_world w1 hw1
       obtain rfl:W=w1:=hW.out.symm.trans hw1
       clear hw1 hW
       go_upto_region 3 with fail
       try simp only[Act.put]
       refine wp_region_list ?_
       refine wpList_step fun K hK=>?_
       go_simp
       refine hK _ _ ?_
       clear hK K
       refine wpList_load_mid rfl 43 _ rfl _ _ rfl u _ rV underlying43 rfl ix ?_
       refine wpList_step fun K hK=>?_
       go_simp
       refine hK _ _ ?_
       clear hK K
       refine wpList_load_mid rfl 43 _ rfl _ _ rfl u' _ rV' underlying43 rfl iy ?_
       refine wpList_step fun K hK=>?_
       go_simp
       try rw[hq]
       try go_simp
       refine hK _ _ ?_
       clear hK K
       refine wpList_step fun K hK=>?_
       go_simp
       refine hK _ _ ?_
       clear hK K
       refine wpList_step fun K hK=>?_
       go_simp
       refine hK _ _ ?_
       clear hK K
       refine wpList_step fun K hK=>?_
       go_simp
       refine hK _ _ ?_
       clear hK K
       refine wpList_step fun K hK=>?_
       go_simp
       refine hK _ _ ?_
       clear hK K
       refine wpList_step fun K hK=>?_
       go_simp
       refine hK _ _ ?_
       clear hK K
       refine wpList_step fun K hK=>?_
       go_simp
       refine hK _ _ ?_
       clear hK K
       refine wpList_step fun K hK=>?_
       go_simp
       refine hK _ _ ?_
       clear hK K
       refine wpList_step fun K hK=>?_
       go_simp
       refine hK _ _ ?_
       clear hK K
       refine wpList_step fun K hK=>?_
       go_simp
       refine hK _ _ ?_
       clear hK K
       refine wpList_step fun K hK=>?_
       go_simp
       refine hK _ _ ?_
       clear hK K
       refine wpList_step fun K hK=>?_
       go_simp
       refine hK _ _ ?_
       clear hK K
       refine wpList_step fun K hK=>?_
       go_simp
       refine hK _ _ ?_
       clear hK K
       refine wpList_step fun K hK=>?_
       go_simp
       refine hK _ _ ?_
       clear hK K
       refine wpList_step fun K hK=>?_
       go_simp
       refine hK _ _ ?_
       clear hK K
       refine wpList_step fun K hK=>?_
       go_simp
       refine hK _ _ ?_
       clear hK K
       go_wp2
       go_ret
       exact⟨rfl,hB⟩
      ·rw[Bool.true_and]
       cases db
       ·rw[Bool.false_and,Bool.false_and]
        clear cT cT'
        clear gB gC gN gT gS A1 A2 A3 A4 A5 B1 B2 B3 B4 B5 rC rC' cQ cR cQ' cR' c1 c2 c3 cH c1' c2' c3' cH' cN cN' cG cG' ic ic'
        go_enter func84,ntmps84
        go_upto_region 1 with fail
        go_name_world w1 hw1
        obtain rfl:W=w1:=hW.out.symm.trans hw1
        clear hw1 hW
        go_upto_region 3 with fail
        try simp only[Act.put]
        refine wp_region_list ?_
        refine wpList_step fun K hK=>?_
        go_simp
        refine hK _ _ ?_
        clear hK K
        refine wpList_load_mid rfl 43 _ rfl _ _ rfl u _ rV underlying43 rfl ix ?_
        refine wpList_step fun K hK=>?_
        go_simp
        refine hK _ _ ?_
        clear hK K
        refine wpList_load_mid rfl 43 _ rfl _ _ rfl u' _ rV' underlying43 rfl iy ?_
        refine wpList_step fun K hK=>?_
        go_simp
        try rw[hq]
        try go_simp
        refine hK _ _ ?_
        clear hK K
        refine wpList_step fun K hK=>?_
        go_simp
        refine hK _ _ ?_
        clear hK K
        refine wpList_step fun K hK=>?_
        go_simp
        refine hK _ _ ?_
        clear hK K
        refine zM (by rfl) 41 _ rfl _ _ rfl ud _ rD underlying41 rfl id ?_
        refine wpList_step fun K hK=>?_
        go_simp
        refine hK _ _ ?_
        clear hK K
        refine zM (by rfl) 41 _ rfl _ _ rfl ud' _ rD' underlying41 rfl id' ?_
        refine wpList_step fun K hK=>?_
        go_simp
        try rw[hq2]
        try go_simp
        refine hK _ _ ?_
        clear hK K
        refine wpList_step fun K hK=>?_
        go_simp
        refine hK _ _ ?_
        clear hK K
        refine wpList_step fun K hK=>?_
        go_simp
        refine hK _ _ ?_
        clear hK K
        refine wpList_step fun K hK=>?_
        go_simp
        refine hK _ _ ?_
        clear hK K
        refine wpList_step fun K hK=>?_
        go_simp
        refine hK _ _ ?_
        clear hK K
        refine wpList_step fun K hK=>?_
        go_simp
        refine hK _ _ ?_
        clear hK K
        refine wpList_step fun K hK=>?_
        go_simp
        refine hK _ _ ?_
        clear hK K
        refine wpList_step fun K hK=>?_
        go_simp
        refine hK _ _ ?_
        clear hK K
        refine wpList_step fun K hK=>?_
        go_simp
        refine hK _ _ ?_
        clear hK K
        refine wpList_step fun K hK=>?_
        go_simp
        refine hK _ _ ?_
        clear hK K
        go_wp2
        go_ret
        exact⟨rfl,hB⟩
       ·rw[Bool.true_and]
        by_cases h_st:st.toList=st'.toList
        rotate_left
        ·rw[show(st.toList==st'.toList)=false from beq_eq_false_iff_ne.2 h_st,Bool.false_and]
         have hst:(st.toList !=st'.toList)=true:=bne_iff_ne.2 h_st
         clear h_st
         clear gB gC gN gT gS A1 A2 A3 A4 A5 B1 B2 B3 B4 B5 rC rC' cQ cR cQ' cR' c1 c2 c3 cH c1' c2' c3' cH' cN cN' cG cG' ic ic'
         go_enter func84,ntmps84
         go_upto_region 1 with fail
         go_name_world w1 hw1
         obtain rfl:W=w1:=hW.out.symm.trans hw1
         clear hw1 hW
         go_upto_region 3 with fail
         try simp only[Act.put]
         refine wp_region_list ?_
         refine wpList_step fun K hK=>?_
         go_simp
         refine hK _ _ ?_
         clear hK K
         refine wpList_load_mid rfl 43 _ rfl _ _ rfl u _ rV underlying43 rfl ix ?_
         refine wpList_step fun K hK=>?_
         go_simp
         refine hK _ _ ?_
         clear hK K
         refine wpList_load_mid rfl 43 _ rfl _ _ rfl u' _ rV' underlying43 rfl iy ?_
         refine wpList_step fun K hK=>?_
         go_simp
         try rw[hq]
         try go_simp
         refine hK _ _ ?_
         clear hK K
         refine wpList_step fun K hK=>?_
         go_simp
         refine hK _ _ ?_
         clear hK K
         refine wpList_step fun K hK=>?_
         go_simp
         refine hK _ _ ?_
         clear hK K
         refine zM (by rfl) 41 _ rfl _ _ rfl ud _ rD underlying41 rfl id ?_
         refine wpList_step fun K hK=>?_
         go_simp
         refine hK _ _ ?_
         clear hK K
         refine zM (by rfl) 41 _ rfl _ _ rfl ud' _ rD' underlying41 rfl id' ?_
         refine wpList_step fun K hK=>?_
         go_simp
         try rw[hq2]
         try go_simp
         refine hK _ _ ?_
         clear hK K
         refine wpList_step fun K hK=>?_
         go_simp
         refine hK _ _ ?_
         clear hK K
         refine wpList_step fun K hK=>?_
         go_simp
         refine hK _ _ ?_
         clear hK K
         refine wpList_step fun K hK=>?_
         go_simp
         refine hK _ _ ?_
         clear hK K
         refine wpList_step fun K hK=>?_
         go_simp
         refine hK _ _ ?_
         clear hK K
         refine wpList_step fun K hK=>?_
         go_simp
         refine hK _ _ ?_
         clear hK K
         refine wpList_step fun K hK=>?_
         go_simp
         refine hK _ _ ?_
         clear hK K
         refine zcE (by rfl) _ _ _ _ rfl st st' rfl rfl true hst ?_
         refine wpList_step fun K hK=>?_
         go_simp
         refine hK _ _ ?_
         clear hK K
         refine wpList_step fun K hK=>?_
         go_simp
         refine hK _ _ ?_
         clear hK K
         go_wp2
         go_ret
         exact⟨rfl,hB⟩
        ·rw[show(st.toList==st'.toList)=true from beq_iff_eq.2 h_st,Bool.true_and]
         have hst:(st.toList !=st'.toList)=false:=by rw[h_st];simp
         clear h_st
         go_enter func84,ntmps84
         go_upto_region 1 with fail
         go_name_world w1 hw1
         obtain rfl:W=w1:=hW.out.symm.trans hw1
         clear hw1 hW
         go_upto_region 3 with fail
         try simp only[Act.put]
         refine wp_region_list ?_
         refine wpList_step fun K hK=>?_
         go_simp
         refine hK _ _ ?_
         clear hK K
         refine wpList_load_mid rfl 43 _ rfl _ _ rfl u _ rV underlying43 rfl ix ?_
         refine wpList_step fun K hK=>?_
         go_simp
         refine hK _ _ ?_
         clear hK K
         refine wpList_load_mid rfl 43 _ rfl _ _ rfl u' _ rV' underlying43 rfl iy ?_
         refine wpList_step fun K hK=>?_
         go_simp
         try rw[hq]
         try go_simp
         refine hK _ _ ?_
         clear hK K
         refine wpList_step fun K hK=>?_
         go_simp
         refine hK _ _ ?_
         clear hK K
         refine wpList_step fun K hK=>?_
         go_simp
         refine hK _ _ ?_
         clear hK K
         refine zM (by rfl) 41 _ rfl _ _ rfl ud _ rD underlying41 rfl id ?_
         refine wpList_step fun K hK=>?_
         go_simp
         refine hK _ _ ?_
         clear hK K
         refine zM (by rfl) 41 _ rfl _ _ rfl ud' _ rD' underlying41 rfl id' ?_
         refine wpList_step fun K hK=>?_
         go_simp
         try rw[hq2]
         try go_simp
         refine hK _ _ ?_
         clear hK K
         refine wpList_step fun K hK=>?_
         go_simp
         refine hK _ _ ?_
         clear hK K
         refine wpList_step fun K hK=>?_
         go_simp
         refine hK _ _ ?_
         clear hK K
         refine wpList_step fun K hK=>?_
         go_simp
         refine hK _ _ ?_
         clear hK K
         refine wpList_step fun K hK=>?_
         go_simp
         refine hK _ _ ?_
         clear hK K
         refine wpList_step fun K hK=>?_
         go_simp
         refine hK _ _ ?_
         clear hK K
         refine wpList_step fun K hK=>?_
         go_simp
         refine hK _ _ ?_
         clear hK K
         refine zcE (by rfl) _ _ _ _ rfl st st' rfl rfl false hst ?_
         refine wpList_step fun K hK=>?_
         go_simp
         refine hK _ _ ?_
         clear hK K
         refine wpList_step fun K hK=>?_
         go_simp
         refine hK _ _ ?_
         clear hK K
         go_upto_region 5 with fail
         clear cK cE cL cV cS cK' cE' cL' cV' cS' rV rV' rD rD' cT cT' hq hq2 hst ix iy id id'
         have G1:=gB W A1 B1
         go_wp2_with fail
         refine G1.mono ?_
         rintro e2 w2 ⟨rfl,hb2⟩
         have up:=fun i v (h:W.cell? ⟨w.heap.size,i,none⟩=some v)=>(hb2.cell (p:=⟨w.heap.size,i,none⟩) (show w.heap.size<W.heap.size by omega)).trans h
         replace c1:=up _ _ c1
         replace c2:=up _ _ c2
         replace c3:=up _ _ c3
         replace cH:=up _ _ cH
         replace cN:=up _ _ cN
         replace cG:=up _ _ cG
         replace rC:=za rC hb2 (by omega)
         clear up
         have up':=fun i v (h:W.cell? ⟨w.heap.size+1,i,none⟩=some v)=>(hb2.cell (p:=⟨w.heap.size+1,i,none⟩) (show w.heap.size+1<W.heap.size by omega)).trans h
         replace c1':=up' _ _ c1'
         replace c2':=up' _ _ c2'
         replace c3':=up' _ _ c3'
         replace cH':=up' _ _ cH'
         replace cN':=up' _ _ cN'
         replace cG':=up' _ _ cG'
         replace rC':=za rC' hb2 (by omega)
         clear up'
         have hs2:=Nat.le_trans hs hb2.size
         have hB2:=hB.trans (hb2.mono (by omega))
         have G2:=gC w2 (A2.below hb2) (B2.below hb2)
         replace A3:=A3.below hb2
         replace B3:=B3.below hb2
         replace A4:=A4.below hb2
         replace B4:=B4.below hb2
         replace A5:=A5.below hb2
         replace B5:=B5.below hb2
         clear cQ cR cQ' cR' hb2 hs hB G1 gB gC A1 B1 A2 B2
         cases b1
         ·clear gN gT gS A3 A4 A5 B3 B4 B5 G2
          go_wp2
          go_ret
          exact⟨rfl,hB2⟩
         ·go_wp2_with fail
          refine G2.mono ?_
          rintro e3 w3 ⟨rfl,hb3⟩
          have up:=fun i v (h:w2.cell? ⟨w.heap.size,i,none⟩=some v)=>(hb3.cell (p:=⟨w.heap.size,i,none⟩) (show w.heap.size<w2.heap.size by omega)).trans h
          replace cN:=up _ _ cN
          replace cG:=up _ _ cG
          replace rC:=za rC hb3 (by omega)
          clear up
          have up':=fun i v (h:w2.cell? ⟨w.heap.size+1,i,none⟩=some v)=>(hb3.cell (p:=⟨w.heap.size+1,i,none⟩) (show w.heap.size+1<w2.heap.size by omega)).trans h
          replace cN':=up' _ _ cN'
          replace cG':=up' _ _ cG'
          replace rC':=za rC' hb3 (by omega)
          clear up'
          have hs3:=Nat.le_trans hs2 hb3.size
          have hB3:=hB2.trans (hb3.mono (by omega))
          have G3:=gN w3 (A3.below hb3) (B3.below hb3)
          replace A4:=A4.below hb3
          replace B4:=B4.below hb3
          replace A5:=A5.below hb3
          replace B5:=B5.below hb3
          clear hb3 hB2 hs2 G2 gN A3 B3 c1 c2 c3 cH c1' c2' c3' cH'
          cases b2
          ·clear G3 gT gS A4 A5 B4 B5
           go_wp2
           go_ret
           exact⟨rfl,hB3⟩
          ·go_wp2_with fail
           refine G3.mono ?_
           rintro e4 w4 ⟨rfl,hb4⟩
           have up:=fun i v (h:w3.cell? ⟨w.heap.size,i,none⟩=some v)=>(hb4.cell (p:=⟨w.heap.size,i,none⟩) (show w.heap.size<w3.heap.size by omega)).trans h
           replace cG:=up _ _ cG
           replace rC:=za rC hb4 (by omega)
           clear up
           have up':=fun i v (h:w3.cell? ⟨w.heap.size+1,i,none⟩=some v)=>(hb4.cell (p:=⟨w.heap.size+1,i,none⟩) (show w.heap.size+1<w3.heap.size by omega)).trans h
           replace cG':=up' _ _ cG'
           replace rC':=za rC' hb4 (by omega)
           clear up'
           have hs4:=Nat.le_trans hs3 hb4.size
           have hB4:=hB3.trans (hb4.mono (by omega))
           have G4:=gT w4 (A4.below hb4) (B4.below hb4)
           replace A5:=A5.below hb4
           replace B5:=B5.below hb4
           clear hb4 hB3 hs3 G3 gT A4 B4 cN cN'
           cases b3
           ·clear G4 gS A5 B5
            go_wp2
            go_ret
            exact⟨rfl,hB4⟩
           ·go_wp2_with (first|(refine zM (by rfl) 50 _ rfl _ _ rfl uc _ rC underlying50 rfl ic ?_)|(refine zM (by rfl) 50 _ rfl _ _ rfl uc' _ rC' underlying50 rfl ic' ?_))
            refine G4.mono ?_
            rintro e5 w5 ⟨rfl,hb5⟩
            have up:=fun i v (h:w4.cell? ⟨w.heap.size,i,none⟩=some v)=>(hb5.cell (p:=⟨w.heap.size,i,none⟩) (show w.heap.size<w4.heap.size by omega)).trans h
            replace cG:=up _ _ cG
            clear up
            have up':=fun i v (h:w4.cell? ⟨w.heap.size+1,i,none⟩=some v)=>(hb5.cell (p:=⟨w.heap.size+1,i,none⟩) (show w.heap.size+1<w4.heap.size by omega)).trans h
            replace cG':=up' _ _ cG'
            clear up'
            have hB5:=hB4.trans (hb5.mono (by omega))
            have G5:=gS w5 (A5.below hb5) (B5.below hb5)
            clear hb5 hB4 G4 gS A5 B5 rC rC'
            cases b4
            ·clear G5
             go_wp2
             go_ret
             exact⟨rfl,hB5⟩
            ·go_wp2_with fail
             refine G5.mono ?_
             rintro e6 w6 ⟨rfl,hb6⟩
             have hB6:=hB5.trans (hb6.mono hB5.size)
             clear hb6
             cases b5
             ·go_wp2
              go_ret
              exact⟨rfl,hB6⟩
             ·go_wp2
              go_ret
              exact⟨rfl,hB6⟩
end Go.Proofs.YtcbpbkefggekmaaGreatDoor
