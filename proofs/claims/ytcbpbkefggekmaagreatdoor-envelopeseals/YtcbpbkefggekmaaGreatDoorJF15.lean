/- the document's reader: changes; the document's fields; the document's fields: kind 0; the document's fields: kind 1; the document's fields: kind 2; the document -/
import Derived.Test.YtcbpbkefggekmaaGreatDoorJF0
import Derived.Test.YtcbpbkefggekmaaGreatDoorJF14
import Derived.Test.YtcbpbkefggekmaaGreatDoorJF11
set_option maxHeartbeats 1000000
set_option maxRecDepth 100000
open Go.Proofs.Tryz
namespace Go.Proofs.YtcbpbkefggekmaaGreatDoor
open Go.RowKit
open Sha Tal
set_option linter.unusedVariables false
set_option linter.unusedSimpArgs false
def xheS (s:Xst):Hp ×Xst:=(⟨(xbaS s).1.1,(xbaS s).1.2,(xceS (xbaS s).2).1.1,(xceS (xbaS s).2).1.2⟩,(xceS (xbaS s).2).2)
def xchS (s:Xst):Cp ×Xst:=
 (⟨(xnuS 1048576 s).1,(xnuS 64 (xnuS 1048576 s).2).1,(xnuS 1099511627776 (xnuS 64 (xnuS 1048576 s).2).2).1,(xlsS 4 xheS (xnuS 1099511627776 (xnuS 64 (xnuS 1048576 s).2).2).2).1⟩,(xlsS 4 xheS (xnuS 1099511627776 (xnuS 64 (xnuS 1048576 s).2).2).2).2)
structure XV (w:World) (X A B n:Nat) (q:List Value) (W:World):Prop where
 row:W.rangeAt B 0 q
 box:W.there B 0 n
 ans:W.there A 0 n
 gr:w.grownBy W (some X)
 lb:B<W.heap.size
 na:w.heap.size≤A
 ab:A<B
 lx:X<w.heap.size
theorem XV.on {w W W':World} {X A B n:Nat} {q:List Value} (h:XV w X A B n q W) (g:W.grownBy W' (some X)):XV w X A B n q W':=by
 have h1:=h.na
 have h2:=h.ab
 have h3:=h.lx
 have h4:=h.lb
 exact⟨zaM h.row g h.lb (by omega),zJ h.box g h.lb (by omega),zJ h.ans g (by omega) (by omega),zr h.gr g,Nat.lt_of_lt_of_le h.lb g.size,h1,h2,h3⟩
theorem XV.set {w W:World} {X A B n:Nat} {q q':List Value} (h:XV w X A B n q W) (o:Nat) (vs:List Value) (hq:(W.setCells B o vs).rangeAt B 0 q'):XV w X A B n q' (W.setCells B o vs):=
 ⟨hq,World.there_setCells h.box _ _ _,World.there_setCells h.ans _ _ _,zu h.gr (ze (by have:=h.na;have:=h.ab;omega) vs o _ (Below.refl _ W)) (Nat.le_refl _),by rw[zF];exact h.lb,h.na,h.ab,h.lx⟩
theorem XV.low {w W W':World} {X A B n m:Nat} {q:List Value} (h:XV w X A B n q W) (hb:Below m W W') (hm:B<m):XV w X A B n q W':=by
 have h1:=h.na
 have h2:=h.ab
 exact⟨zb9 h.row (hb.block B hm),zab h.box (hb.block B hm),zab h.ans (hb.block A (by omega)),zu h.gr hb (by omega),Nat.lt_of_lt_of_le h.lb hb.size,h1,h2,h.lx⟩
structure XH (w:World) (D X A B:Nat) (a b c:Int) (t:Xst) (k:Nat) (W:World):Prop where
 ex:∃(v:Value) (ys:List Hd),XV w X A B 4 [.int .i64 a,.int .i64 b,.int .i64 c,v] W∧ys.map Hd.pure=(xitG xheS t k).1∧W.ownsRow (B+1) 113 39 v ys.length (ys.flatMap Hd.cells)∧∀y∈ys,y.vt.ok∧y.At W∧y.Bk (fun b=>B<b∧b<W.heap.size∧v.ownBlock≠some b)
 rs:XR W D X (xitG xheS t k).2
theorem zeroBa (w:World):(zeroValue 39).run prog w=.ok (.agg #[.bool false,.slice none 0 0]) w:=by kernel_rfl
theorem zbA {w w':World} {B k n g:Nat} {t:TypeId} {v:Value} {xs:List Value} (h:w.ownsRow B t k v n xs) (hg:w.grownBy w' (some g)) (hlt:g<B):w'.ownsRow B t k v n xs:=
  h.kept hg (by
    cases hv:v.ownBlock with
    |none=>exact .inl rfl
    |some q=>exact .inr (by have:=(h.lt q hv).1;intro q2;injection q2 with q2;omega))
theorem zdR {w:World} {B k n:Nat} {t:TypeId} {v:Value} {xs:List Value} (h:w.ownsRow B t k v n xs):v.cells=#[v]∧v.oneCell'=true:=by
 rcases h.2 with⟨rfl,_⟩|⟨g,cap,cur,rfl,_⟩<;>exact⟨rfl,rfl⟩
theorem zdP {w w':World} {b o:Nat} {v:Value} {cs:List Value} (h:w.rangeAt b o cs) (g:w.grownBy w' v.ownBlock) (hb:b<w.heap.size) (hne:∀q,v.ownBlock=some q→q≠b):w'.rangeAt b o cs:=
 zb9 h (g.block b hb (fun e=>hne b e.symm rfl))
theorem XH.step {w wr w4 w8 w6 w7 w9:World} {D X A B k:Nat} {a b c:Int} {t:Xst} {v v9:Value} {q:Bool} {x:Sl Rq} {vt:Vt} {y:Sl Sg} {ys:List Hd} (hAB:B+1≤wr.heap.size) (hXB:X<B) (hst:(xitG xheS t k).2.2=0)
  (hA:x.At RqE w4) (hB:x.Bk (fun b=>wr.heap.size≤b∧b<w4.heap.size)) (hC:y.At SgE w6) (hD:y.Bk (fun b=>w8.heap.size≤b∧b<w6.heap.size)) (hvt:vt.ok)
  (e1:Hd.pure ⟨q,x,vt,y⟩=(xheS (xitG xheS t k).2).1) (g4:wr.grownBy w4 (some X)) (l8:Below w4.heap.size w4 w8) (g6:w8.grownBy w6 (some X)) (hb7:Below w6.heap.size w6 w7) (g9:w7.grownBy w9 v.ownBlock) (gb:∀g,v9.ownBlock=some g→v.ownBlock=some g∨w7.heap.size≤g)
  (e2:ys.map Hd.pure=(xitG xheS t k).1) (HO:wr.ownsRow (B+1) 113 39 v ys.length (ys.flatMap Hd.cells)) (hys:∀y∈ys,y.vt.ok∧y.At wr∧y.Bk (fun b=>B<b∧b<wr.heap.size∧v.ownBlock≠some b))
  (o9:w9.ownsRow (B+1) 113 39 v9 (ys.length+1) (ys.flatMap Hd.cells++Hd.cells ⟨q,x,vt,y⟩)) (Ve:XV w X A B 4 [.int .i64 a,.int .i64 b,.int .i64 c,v9] (w9.setCells B 3 [v9])) (S9:XR w9 D X (xheS (xitG xheS t k).2).2):XH w D X A B a b c t (k+1) (w9.setCells B 3 [v9]):=by
 have z4:=g4.size
 have z8:=l8.size
 have z6:=g6.size
 have z7:=hb7.size
 have z9:=g9.size
 have hs:xitG xheS t (k+1)=((xitG xheS t k).1++[(xheS (xitG xheS t k).2).1],(xheS (xitG xheS t k).2).2):=by
  show(if(xitG xheS t k).2.2=0 then _ else _)=_
  rw[if_pos hst]
 have zs:(w9.setCells B 3 [v9]).heap.size=w9.heap.size:=zF ..
 have b9:∀b,b≠B→(w9.setCells B 3 [v9]).heap[b]? =w9.heap[b]? :=fun b hb=>zaV hb
 have bl:∀b,b<w6.heap.size→v.ownBlock≠some b→w9.heap[b]? =w6.heap[b]? :=fun b h1 h2=>(g9.block b (by omega) (fun q=>h2 q.symm)).trans (hb7.block b h1)
 have nX:∀b:Nat,b≠X→some b≠some X:=fun b hb q=>by injection q with q;exact hb q
 have nv:∀b,wr.heap.size≤b→v.ownBlock≠some b:=fun b hb q=>by have:=(HO.lt b q).2;omega
 refine⟨⟨v9,ys++[⟨q,x,vt,y⟩],Ve,?_,?_,?_⟩,by rw[hs];exact S9.low (ze (Nat.le_refl _) [v9] 3 _ (Below.refl _ w9)) hXB⟩
 ·rw[List.map_append,e2,hs]
  show _=(xitG xheS t k).1++[(xheS (xitG xheS t k).2).1]
  rw[←e1]
  rfl
 ·have o:w9.ownsRow (B+1) 113 39 v9 (ys++[(⟨q,x,vt,y⟩:Hd)]).length ((ys++[(⟨q,x,vt,y⟩:Hd)]).flatMap Hd.cells):=by
   rw[List.flatMap_append,List.length_append]
   simpa using o9
  exact zbA o (zL w9 B [v9] 3) (by omega)
 ·intro u hu
  rcases List.mem_append.1 hu with g|g
  ·obtain⟨u1,u2,u3⟩:=hys u g
   refine⟨u1,u2.on (by omega) u3 (fun b hb hlt=>?_),u3.mono (fun b hb=>⟨hb.1,by omega,fun q=>?_⟩)⟩
   ·rw[b9 b (by omega),bl b (by omega) hb.2.2,g6.block b (by omega) (nX b (by omega)),l8.block b (by omega),g4.block b (by omega) (nX b (by omega))]
   ·rcases gb b q with g1|g1
    ·exact hb.2.2 g1
    ·omega
  ·rw[List.mem_singleton.1 g]
   refine⟨hvt,⟨hA.on (by omega) hB (fun b hb hlt=>?_),hC.on (by omega) hD (fun b hb hlt=>?_)⟩,hB.mono (fun b hb=>⟨by omega,by omega,fun q=>?_⟩),hD.mono (fun b hb=>⟨by omega,by omega,fun q=>?_⟩)⟩
   ·rw[b9 b (by omega),bl b (by omega) (nv b hb.1),g6.block b (by omega) (nX b (by omega)),l8.block b (by omega)]
   ·rw[b9 b (by omega),bl b (by omega) (nv b (by omega))]
   ·rcases gb b q with g1|g1
    ·exact nv b hb.1 g1
    ·omega
   ·rcases gb b q with g1|g1
    ·exact nv b (by omega) g1
    ·omega
theorem xchangeS (D X:Nat) (s:Xst) (w:World) (h:XR w D X s):Calls prog 119 #[.pointer (some ⟨X,0,none⟩)] w fun en w'=>∃x:Sl Hd,en=.returned (.agg ([.int .i64 (xchS s).1.e,.int .i64 (xchS s).1.l,.int .i64 (xchS s).1.v,x.val]:List Value).toArray)∧x.xs.map Hd.pure=(xchS s).1.he∧HdsAt w' x∧x.Bk (fun b=>w.heap.size≤b∧b<w'.heap.size)∧(∀y∈x.xs,y.Bk (fun b=>w.heap.size≤b∧b<w'.heap.size))∧XR w' D X (xchS s).2∧w.grownBy w' (some X):=by
 obtain⟨zc,hzl,hzr,hzc⟩:∃z:List Value,z.length=4∧(∀w:World,(zeroValue 46).run prog w=.ok (.agg z.toArray) w)∧Hid (z=[.int .i64 0,.int .i64 0,.int .i64 0,.slice none 0 0]):=⟨_,rfl,zeroChE,hide rfl⟩
 obtain⟨i1,hi1,hiz,his,hib⟩:=zR infoHd
 have hzk:=zex
 have hXw:=h.lx
 unfold xchS xlsS
 have c1:=fun w0 h0=>xnumS D X 1048576 s w0 h0
 have q1:(xnuS 1048576 s).2.2=0→Bs (xnuS 1048576 s).2.1:=zaJ h.st.bs
 generalize xnuS 1048576 s=p_ at c1 q1 ⊢
 obtain⟨v1,s1⟩:=p_
 simp only at c1 q1 ⊢
 have c2:=fun w0 h0=>xnumS D X 64 s1 w0 h0
 have q2:(xnuS 64 s1).2.2=0→Bs (xnuS 64 s1).2.1:=zaJ q1
 generalize xnuS 64 s1=p_ at c2 q2 ⊢
 obtain⟨v2,s2⟩:=p_
 simp only at c2 q2 ⊢
 have c3:=fun w0 h0=>xnumS D X 1099511627776 s2 w0 h0
 have q3:(xnuS 1099511627776 s2).2.2=0→Bs (xnuS 1099511627776 s2).2.1:=zaJ q2
 generalize xnuS 1099511627776 s2=p_ at c3 q3 ⊢
 obtain⟨v3,s3⟩:=p_
 simp only at c3 q3 ⊢
 have c4:=fun w0 h0=>xnumS D X 4 s3 w0 h0
 have hx1:0≤(xnuS 4 s3).1∧(xnuS 4 s3).1≤4:=zag (most:=4) q3 (by omega)
 generalize xnuS 4 s3=p_ at c4 hx1 ⊢
 obtain⟨n,t⟩:=p_
 simp only at c4 hx1 ⊢
 obtain⟨N,rfl⟩:∃N:Nat,n=(N:Int):=⟨n.toNat,by omega⟩
 have hN:N≤4:=by omega
 rw[Int.toNat_natCast]
 clear hx1 q1 q2 q3
 obtain⟨hB1,hr1,hs1⟩:=zq w zc 46
 have ht1:=zi w zc.toArray 46 (n:=4) (by simp[hzl])
 go_enter func119,ntmps119
 go_upto_region 0 with fail
 refine pl_b ?_
 refine pl_r 2 (.pointer (some ⟨w.heap.size,0,none⟩)) (w.alloc (.cells zc.toArray 46)) (zo rfl (hzr _)) ?_
 refine za ?_
 obtain⟨W1,hW1⟩:∃W,w.alloc (.cells zc.toArray 46)=W:=⟨_,rfl⟩
 rw[hW1]at hB1 hr1 hs1 ht1 ⊢
 clear hW1 hr1
 obtain⟨hB2,hr2,hs2⟩:=zq W1 zc 46
 have ht2:=zi W1 zc.toArray 46 (n:=4) (by simp[hzl])
 go_upto_region 1 with fail
 refine pl_b ?_
 refine pl_r 3 (.pointer (some ⟨W1.heap.size,0,none⟩)) (W1.alloc (.cells zc.toArray 46)) (zo rfl (hzr _)) ?_
 refine za ?_
 obtain⟨W2,hW2⟩:∃W,W1.alloc (.cells zc.toArray 46)=W:=⟨_,rfl⟩
 rw[hW2]at hB2 hr2 hs2 ht2 ⊢
 clear hW2
 rw[hzc.out]at hr2
 have hBW:=hB1.trans (hB2.mono hB1.size)
 have V0:XV w X w.heap.size W1.heap.size 4 _ W2:=⟨hr2,ht2,zam ht1 hB2 hs1,zW hBW _,hs2,Nat.le_refl _,hs1,hXw⟩
 have S0:=h.below hBW
 clear hr2 ht2 ht1 hzr hzc hzl hB1 hB2 hBW hs2 h
 go_upto_region 2 with fail
 refine pl_b ?_
 refine pl_a 7 ?_
 refine pl_c 8 ?_
 refine(c1 W2 S0).mono ?_
 rintro _ wa1 ⟨rfl,Sa1,ga1⟩
 refine⟨_,rfl,?_⟩
 simp only[nz]
 refine pl_a 9 ?_
 have Va1:=V0.on ga1
 have Vb1:=Va1.set 0 [.int .i64 v1] (za5 Va1.row _).1
 have Sb1:=Sa1.low (ze (b:=W1.heap.size) (B:=W1.heap.size) (Nat.le_refl _) [.int .i64 v1] 0 _ (Below.refl _ wa1)) (by omega)
 refine pl_s (wa1.setCells W1.heap.size 0 [.int .i64 v1]) (zD (n:=4) rfl rfl rfl Va1.box (by decide) iszI rfl rfl) ?_
 refine za ?_
 obtain⟨wb1,hwb1⟩:∃W,wa1.setCells W1.heap.size 0 [.int .i64 v1]=W:=⟨_,rfl⟩
 rw[hwb1]at Vb1 Sb1 ⊢
 clear hwb1
 clear Va1 Sa1 ga1 V0 S0 c1
 go_upto_region 3 with fail
 refine pl_b ?_
 refine pl_a 10 ?_
 refine pl_c 11 ?_
 refine(c2 wb1 Sb1).mono ?_
 rintro _ wa2 ⟨rfl,Sa2,ga2⟩
 refine⟨_,rfl,?_⟩
 simp only[nz]
 refine pl_a 12 ?_
 have Va2:=Vb1.on ga2
 have Vb2:=Va2.set 1 [.int .i64 v2] (za5 Va2.row _).2.1
 have Sb2:=Sa2.low (ze (b:=W1.heap.size) (B:=W1.heap.size) (Nat.le_refl _) [.int .i64 v2] 1 _ (Below.refl _ wa2)) (by omega)
 refine pl_s (wa2.setCells W1.heap.size 1 [.int .i64 v2]) (zD (n:=4) rfl rfl rfl Va2.box (by decide) iszI rfl rfl) ?_
 refine za ?_
 obtain⟨wb2,hwb2⟩:∃W,wa2.setCells W1.heap.size 1 [.int .i64 v2]=W:=⟨_,rfl⟩
 rw[hwb2]at Vb2 Sb2 ⊢
 clear hwb2
 clear Va2 Sa2 ga2 Vb1 Sb1 c2
 go_upto_region 4 with fail
 refine pl_b ?_
 refine pl_a 13 ?_
 refine pl_c 14 ?_
 refine(c3 wb2 Sb2).mono ?_
 rintro _ wa3 ⟨rfl,Sa3,ga3⟩
 refine⟨_,rfl,?_⟩
 simp only[nz]
 refine pl_a 15 ?_
 have Va3:=Vb2.on ga3
 have Vb3:=Va3.set 2 [.int .i64 v3] (za5 Va3.row _).2.2.1
 have Sb3:=Sa3.low (ze (b:=W1.heap.size) (B:=W1.heap.size) (Nat.le_refl _) [.int .i64 v3] 2 _ (Below.refl _ wa3)) (by omega)
 refine pl_s (wa3.setCells W1.heap.size 2 [.int .i64 v3]) (zD (n:=4) rfl rfl rfl Va3.box (by decide) iszI rfl rfl) ?_
 refine za ?_
 obtain⟨wb3,hwb3⟩:∃W,wa3.setCells W1.heap.size 2 [.int .i64 v3]=W:=⟨_,rfl⟩
 rw[hwb3]at Vb3 Sb3 ⊢
 clear hwb3
 clear Va3 Sa3 ga3 Vb2 Sb2 c3
 go_upto_region 5 with fail
 refine pl_b ?_
 refine pl_a 16 ?_
 refine pl_c 17 ?_
 refine(c4 wb3 Sb3).mono ?_
 rintro _ w3 ⟨rfl,S3,g3⟩
 refine⟨_,rfl,?_⟩
 simp only[nz]
 refine pl_a 4 ?_
 refine za ?_
 have V3:=Vb3.on g3
 clear Vb3 Sb3 g3 c4
 have HL0:Hid (XH w D X w.heap.size W1.heap.size v1 v2 v3 t 0 w3):=hide ⟨⟨_,[],V3,rfl,World.ownsRow_nil _ _ _ _,fun y hy=>by cases hy⟩,S3⟩
 clear V3 S3
 go_wp2_with fail
 go_loopw [5] (fun iv wr=>∃k:Nat,k≤N∧iv=.int .i64 (k:Int)∧Hid (XH w D X w.heap.size W1.heap.size v1 v2 v3 t k wr)) (fun iv _=>N - (intOf iv).toNat)
 case atStart=>exact⟨0,by omega,rfl,HL0⟩
 case round=>
  clear HL0
  obtain⟨k,hk,rfl,HL⟩:=hrel
  have HX:=HL.out
  clear HL
  have hce:=HX.rs.st.err
  by_cases hlt:k<N
  ·have k1:(k:Int)<N:=by omega
   by_cases he:(xitG xheS t k).2.2=0
   ·have het:=he
    obtain⟨ov,ys,HV,e2,HO,hys⟩:=HX.ex
    have HR:=HX.rs
    clear HX
    rw[he]at hce
    clear he
    have he:True:=trivial
    have cb:=fun w0 h0=>xbatS D X (xitG xheS t k).2 w0 h0
    have cc:=fun w0 h0=>xcertS D X (xbaS (xitG xheS t k).2).2 w0 h0
    have ep:(xheS (xitG xheS t k).2).1=⟨(xbaS (xitG xheS t k).2).1.1,(xbaS (xitG xheS t k).2).1.2,(xceS (xbaS (xitG xheS t k).2).2).1.1,(xceS (xbaS (xitG xheS t k).2).2).1.2⟩:=rfl
    have es:(xheS (xitG xheS t k).2).2=(xceS (xbaS (xitG xheS t k).2).2).2:=rfl
    generalize xbaS (xitG xheS t k).2=p_ at cb cc ep es
    obtain⟨⟨q,rs⟩,tb⟩:=p_
    simp only at cb cc ep es
    generalize xceS tb=p_ at cc ep es
    obtain⟨⟨vt,sg⟩,tc⟩:=p_
    simp only at cc ep es
    replace ep:=hide ep
    replace es:=hide es
    have hBr:=HV.lb
    go_upto_region 7 with fail
    refine pl_b ?_
    refine pl_a 18 ?_
    refine pl_a 19 ?_
    refine pl_v 20 (.bool true) (by go_simp<;>(try simp)<;>(try omega)) ?_
    refine pl_a 21 ?_
    refine pl_a 22 ?_
    refine pl_a 23 ?_
    refine pl_a 24 ?_
    refine pl_v 25 (.int .i64 0) (zg rfl rfl hce underlying3 rfl) ?_
    refine pl_v 26 (.bool true) (by go_simp<;>(try simp[he])) ?_
    refine pl_a 27 ?_
    refine za ?_
    clear hce
    go_upto_region 9 with fail
    refine pl_b ?_
    refine pl_a 30 ?_
    refine pl_c 31 ?_
    refine(cb wr HR).mono ?_
    rintro _ w4 ⟨x,rfl,hx,hA,hB,S4,g4⟩
    refine⟨_,rfl,?_⟩
    simp only[nz]
    refine pl_r 6 (.pointer (some ⟨w4.heap.size,0,none⟩)) (w4.alloc (.cells #[.bool false,.slice none 0 0] 39)) (zo rfl (zeroBa _)) ?_
    refine pl_s ((w4.alloc (.cells #[.bool false,.slice none 0 0] 39)).setCells w4.heap.size 0 [.bool q,x.val]) (zf (cs:=#[.bool q,x.val]) rfl rfl rfl (zi _ _ _ rfl) iszBa (by simp[Value.oneCell',Sl.val])) ?_
    refine za ?_
    obtain⟨r5,hl5,hs5,-⟩:=zt w4 #[.bool false,.slice none 0 0] 39 [.bool q,x.val] rfl
    obtain⟨w5,hw5⟩:∃W,(w4.alloc (.cells #[.bool false,.slice none 0 0] 39)).setCells w4.heap.size 0 [.bool q,x.val]=W:=⟨_,rfl⟩
    rw[hw5]at r5 hl5 hs5 ⊢
    clear hw5
    have z4:=g4.size
    have z5:=hl5.size
    have S5:=S4.below hl5
    go_upto_region 10 with fail
    have hd8:Below w5.heap.size w5 w5.drew:=(Below.refl _ _).drew
    have hS:(fun W'=>W'.rangeAt w4.heap.size 0 [.bool q,x.val]) w5.drew:=(World.rangeAt_drew _ _ _ _).2 r5
    have V8:=((HV.on g4).low hl5 (by omega)).low hd8 (by omega)
    have S8:=S5.below hd8
    have z8:w5.drew.heap.size=w5.heap.size:=rfl
    refine zC (S:=(fun W'=>W'.rangeAt w4.heap.size 0 [.bool q,x.val])) 10 rfl (by kernel_rfl) ?_
    obtain⟨w8,hw8⟩:∃W,w5.drew=W:=⟨_,rfl⟩
    rw[hw8]at hd8 hS S8 z8 V8 ⊢
    clear hw8 S5 r5
    have gb8:w4.grownBy w8 (some X):=zu (zW hl5 _) hd8 (by omega)
    refine hs_a 0 32 hS ?_
    refine hs_v 2 34 (.agg #[.bool q,x.val]) rfl (fun w' hw=>zp rfl rfl hw underlying39 rfl iszBa) hS ?_
    refine hs_a 3 35 hS ?_
    refine zgN (l:=[1,4]) (by kernel_rfl) (by simp) ?_
    intro ii hii
    simp only[List.mem_cons,List.not_mem_nil,or_false]at hii
    rcases hii with rfl|rfl
    ·refine zbO (i:=1) (d:=some 33) (v:=ov) (w':=w8) rfl (by rfl) (zg rfl rfl (V8.row 3 _ rfl) underlying44 rfl) rfl hS ?_
     simp only[nz]
     refine hs_c 4 36 ?_
     refine(cc w8 S8).mono ?_
     rintro _ w6 ⟨y,rfl,hy,hC,hD,hvt,S6,g6⟩
     have hS:(fun W'=>W'.rangeAt w4.heap.size 0 [.bool q,x.val]) w6:=zaM hS g6 (by omega) (by omega)
     refine⟨_,rfl,hS,?_⟩
     simp only[nz]
     have V6:=V8.on g6
     have hvl:(certL vt y).length=37:=by have:=hvt.len;simp[certL];omega
     have hbs:=fun w0=>zei q x.val (certL vt y) hvl rfl w0
     have hul:(Hd.cells ⟨q,x,vt,y⟩).length=39:=HdE.len ⟨q,x,vt,y⟩ hvt
     have hone:∀v∈Hd.cells ⟨q,x,vt,y⟩,v.oneCell'=true:=HdE.one ⟨q,x,vt,y⟩
     have hbs:∀w0:World,(Instr.build 113 #[(0,.agg #[.bool q,x.val]),(1,.agg (certL vt y).toArray)]).run prog w0=.ok (.agg (Hd.cells ⟨q,x,vt,y⟩).toArray) w0:=hbs
     obtain⟨u,hu⟩:∃u,Hid (Hd.cells ⟨q,x,vt,y⟩=u):=⟨_,hide rfl⟩
     simp only[hu.out]at hbs hul hone
     have o8:w8.ownsRow (W1.heap.size+1) 113 39 ov ys.length (ys.flatMap Hd.cells):=zbA (zbA HO g4 (by omega)) gb8 (by omega)
     have o6:w6.ownsRow (W1.heap.size+1) 113 39 ov ys.length (ys.flatMap Hd.cells):=zbA o8 g6 (by omega)
     have z6:=g6.size
     refine hs_v 5 37 (.agg u.toArray) rfl (fun w' hw=>zI (parts:=[(0,.tmp 34),(1,.tmp 36)]) rfl rfl (hbs _)) hS ?_
     have hb7:Below w6.heap.size w6 (w6.alloc (.cells u.toArray 113)):=(Below.refl _ _).alloc (Nat.le_refl _) _
     have r7:(w6.alloc (.cells u.toArray 113)).rangeAt w6.heap.size 0 u:=by simpa using zA w6 u.toArray 113
     have o7:=o6.alloc (.cells u.toArray 113)
     have hS7:(fun W'=>W'.rangeAt w4.heap.size 0 [.bool q,x.val]) (w6.alloc (.cells u.toArray 113)):=World.rangeAt_alloc hS _
     refine zat (i:=6) (d:=some 38) (v:=.slice (some ⟨w6.heap.size,0,none⟩) 1 1) (w':=w6.alloc (.cells u.toArray 113)) rfl (by kernel_rfl) (by rfl) (za4 rfl rfl (zaY 44 113 i1 _ u underlying44 hi1 hiz (by rw[his,hul]) (by rw[hul];decide) (by rw[hul];decide) _)) rfl hS7 ?_
     simp only[nz]
     obtain⟨w7,hw7⟩:∃W,w6.alloc (.cells u.toArray 113)=W:=⟨_,rfl⟩
     rw[hw7]at hb7 r7 o7 hS7 ⊢
     clear hw7
     have hS:(fun W'=>W'.rangeAt w4.heap.size 0 [.bool q,x.val]) w7:=hS7
     have z7:=hb7.size
     have V7:=V6.low hb7 (by have:=V6.lb;omega)
     refine zd0 (i:=7) (d:=some 39) rfl (by kernel_rfl) (by rfl) rfl (zbr rfl rfl rfl underlying44 hi1 hiz his (by rw[hib];decide) rfl o7 (by omega) r7 hul hone (by have:=za7 xheS t k;have e:=congrArg List.length e2;rw[List.length_map]at e;omega) hzk) ?_
     rintro v9 w9 ⟨o9,g9,gb9⟩
     have hob:∀g,ov.ownBlock=some g→W1.heap.size+1≤g:=fun g hg=>(o7.lt g hg).1
     have hS9:(fun W'=>W'.rangeAt w4.heap.size 0 [.bool q,x.val]) w9:=zdP hS g9 (by omega) (fun g hg=>by have:=(HO.lt g hg).2;omega)
     refine⟨hS9,?_⟩
     have hS:(fun W'=>W'.rangeAt w4.heap.size 0 [.bool q,x.val]) w9:=hS9
     simp only[nz]
     refine hs_a 8 40 hS ?_
     have b9:Below (W1.heap.size+1) w6 w9:=zaT (B:=W1.heap.size+1) (hb7.mono (by omega)) (by omega) o7 g9
     have V9:=V6.low b9 (by omega)
     have Ve:=V9.set 3 [v9] (za5 V9.row _).2.2.2
     have hSE:(fun W'=>W'.rangeAt w4.heap.size 0 [.bool q,x.val]) (w9.setCells W1.heap.size 3 [v9]):=World.rangeAt_setCells_apart hS _ _ _ (.inl (by omega))
     have hv9:v9.cells=#[v9]∧v9.oneCell'=true:=zdR o9
     refine zS (i:=9) (w':=w9.setCells W1.heap.size 3 [v9]) rfl (by kernel_rfl) (by rfl) (zD (n:=4) rfl rfl rfl V9.box (by decide) iszHds hv9.1 hv9.2) rfl hSE ?_
     refine zv (by kernel_rfl) ?_
     have l8:Below w4.heap.size w4 w8:=hl5.trans (hd8.mono (by omega))
     have HL6:Hid (XH w D X w.heap.size W1.heap.size v1 v2 v3 t (k+1) (w9.setCells W1.heap.size 3 [v9])):=hide (XH.step (by omega) (by omega) het hA hB hC hD hvt (by rw[ep.out,←hx,←hy];rfl) g4 l8 g6 hb7 g9 gb9 e2 HO hys (by rw[hu.out];exact o9) Ve (by rw[es.out];exact S6.low b9 (by omega)))
     clear HV HR HO o6 o7 o8 o9 g9 gb9 b9 S6 g6 hb7 r7 hu hys e2 hA hB hC hD hvt Ve V9 cb cc S8 S4 g4 hl5 hd8 gb8 l8 hS hSE V6 V7 V8
     go_wp2_with fail
     go_roundw
     case rel=>exact⟨k+1,by omega,by go_num,HL6⟩
     case measure=>simp[intOf];omega
    ·refine zfb (i:=4) (d:=some 36) rfl (by rfl) (by go_simp;first|done|exact⟨rfl,rfl⟩|with_reducible rfl) rfl ?_
     refine(cc w8 S8).mono ?_
     rintro _ w6 ⟨y,rfl,hy,hC,hD,hvt,S6,g6⟩
     have hS:(fun W'=>W'.rangeAt w4.heap.size 0 [.bool q,x.val]) w6:=zaM hS g6 (by omega) (by omega)
     refine⟨_,rfl,hS,?_⟩
     simp only[nz]
     have V6:=V8.on g6
     have hvl:(certL vt y).length=37:=by have:=hvt.len;simp[certL];omega
     have hbs:=fun w0=>zei q x.val (certL vt y) hvl rfl w0
     have hul:(Hd.cells ⟨q,x,vt,y⟩).length=39:=HdE.len ⟨q,x,vt,y⟩ hvt
     have hone:∀v∈Hd.cells ⟨q,x,vt,y⟩,v.oneCell'=true:=HdE.one ⟨q,x,vt,y⟩
     have hbs:∀w0:World,(Instr.build 113 #[(0,.agg #[.bool q,x.val]),(1,.agg (certL vt y).toArray)]).run prog w0=.ok (.agg (Hd.cells ⟨q,x,vt,y⟩).toArray) w0:=hbs
     obtain⟨u,hu⟩:∃u,Hid (Hd.cells ⟨q,x,vt,y⟩=u):=⟨_,hide rfl⟩
     simp only[hu.out]at hbs hul hone
     have o8:w8.ownsRow (W1.heap.size+1) 113 39 ov ys.length (ys.flatMap Hd.cells):=zbA (zbA HO g4 (by omega)) gb8 (by omega)
     have o6:w6.ownsRow (W1.heap.size+1) 113 39 ov ys.length (ys.flatMap Hd.cells):=zbA o8 g6 (by omega)
     have z6:=g6.size
     refine hs_v 5 37 (.agg u.toArray) rfl (fun w' hw=>zI (parts:=[(0,.tmp 34),(1,.tmp 36)]) rfl rfl (hbs _)) hS ?_
     refine zgN (l:=[1,6]) (by kernel_rfl) (by simp) ?_
     intro ii hii
     simp only[List.mem_cons,List.not_mem_nil,or_false]at hii
     rcases hii with rfl|rfl
     ·refine zbO (i:=1) (d:=some 33) (v:=ov) (w':=w6) rfl (by rfl) (zg rfl rfl (V6.row 3 _ rfl) underlying44 rfl) rfl hS ?_
      simp only[nz]
      have hb7:Below w6.heap.size w6 (w6.alloc (.cells u.toArray 113)):=(Below.refl _ _).alloc (Nat.le_refl _) _
      have r7:(w6.alloc (.cells u.toArray 113)).rangeAt w6.heap.size 0 u:=by simpa using zA w6 u.toArray 113
      have o7:=o6.alloc (.cells u.toArray 113)
      have hS7:(fun W'=>W'.rangeAt w4.heap.size 0 [.bool q,x.val]) (w6.alloc (.cells u.toArray 113)):=World.rangeAt_alloc hS _
      refine zat (i:=6) (d:=some 38) (v:=.slice (some ⟨w6.heap.size,0,none⟩) 1 1) (w':=w6.alloc (.cells u.toArray 113)) rfl (by kernel_rfl) (by rfl) (za4 rfl rfl (zaY 44 113 i1 _ u underlying44 hi1 hiz (by rw[his,hul]) (by rw[hul];decide) (by rw[hul];decide) _)) rfl hS7 ?_
      simp only[nz]
      obtain⟨w7,hw7⟩:∃W,w6.alloc (.cells u.toArray 113)=W:=⟨_,rfl⟩
      rw[hw7]at hb7 r7 o7 hS7 ⊢
      clear hw7
      have hS:(fun W'=>W'.rangeAt w4.heap.size 0 [.bool q,x.val]) w7:=hS7
      have z7:=hb7.size
      have V7:=V6.low hb7 (by have:=V6.lb;omega)
      refine zd0 (i:=7) (d:=some 39) rfl (by kernel_rfl) (by rfl) rfl (zbr rfl rfl rfl underlying44 hi1 hiz his (by rw[hib];decide) rfl o7 (by omega) r7 hul hone (by have:=za7 xheS t k;have e:=congrArg List.length e2;rw[List.length_map]at e;omega) hzk) ?_
      rintro v9 w9 ⟨o9,g9,gb9⟩
      have hob:∀g,ov.ownBlock=some g→W1.heap.size+1≤g:=fun g hg=>(o7.lt g hg).1
      have hS9:(fun W'=>W'.rangeAt w4.heap.size 0 [.bool q,x.val]) w9:=zdP hS g9 (by omega) (fun g hg=>by have:=(HO.lt g hg).2;omega)
      refine⟨hS9,?_⟩
      have hS:(fun W'=>W'.rangeAt w4.heap.size 0 [.bool q,x.val]) w9:=hS9
      simp only[nz]
      refine hs_a 8 40 hS ?_
      have b9:Below (W1.heap.size+1) w6 w9:=zaT (B:=W1.heap.size+1) (hb7.mono (by omega)) (by omega) o7 g9
      have V9:=V6.low b9 (by omega)
      have Ve:=V9.set 3 [v9] (za5 V9.row _).2.2.2
      have hSE:(fun W'=>W'.rangeAt w4.heap.size 0 [.bool q,x.val]) (w9.setCells W1.heap.size 3 [v9]):=World.rangeAt_setCells_apart hS _ _ _ (.inl (by omega))
      have hv9:v9.cells=#[v9]∧v9.oneCell'=true:=zdR o9
      refine zS (i:=9) (w':=w9.setCells W1.heap.size 3 [v9]) rfl (by kernel_rfl) (by rfl) (zD (n:=4) rfl rfl rfl V9.box (by decide) iszHds hv9.1 hv9.2) rfl hSE ?_
      refine zv (by kernel_rfl) ?_
      have l8:Below w4.heap.size w4 w8:=hl5.trans (hd8.mono (by omega))
      have HL6:Hid (XH w D X w.heap.size W1.heap.size v1 v2 v3 t (k+1) (w9.setCells W1.heap.size 3 [v9])):=hide (XH.step (by omega) (by omega) het hA hB hC hD hvt (by rw[ep.out,←hx,←hy];rfl) g4 l8 g6 hb7 g9 gb9 e2 HO hys (by rw[hu.out];exact o9) Ve (by rw[es.out];exact S6.low b9 (by omega)))
      clear HV HR HO o6 o7 o8 o9 g9 gb9 b9 S6 g6 hb7 r7 hu hys e2 hA hB hC hD hvt Ve V9 cb cc S8 S4 g4 hl5 hd8 gb8 l8 hS hSE V6 V7 V8
      go_wp2_with fail
      go_roundw
      case rel=>exact⟨k+1,by omega,by go_num,HL6⟩
      case measure=>simp[intOf];omega
     ·have hb7:Below w6.heap.size w6 (w6.alloc (.cells u.toArray 113)):=(Below.refl _ _).alloc (Nat.le_refl _) _
      have r7:(w6.alloc (.cells u.toArray 113)).rangeAt w6.heap.size 0 u:=by simpa using zA w6 u.toArray 113
      have o7:=o6.alloc (.cells u.toArray 113)
      have hS7:(fun W'=>W'.rangeAt w4.heap.size 0 [.bool q,x.val]) (w6.alloc (.cells u.toArray 113)):=World.rangeAt_alloc hS _
      refine zbO (i:=6) (d:=some 38) (v:=.slice (some ⟨w6.heap.size,0,none⟩) 1 1) (w':=w6.alloc (.cells u.toArray 113)) rfl (by rfl) (za4 rfl rfl (zaY 44 113 i1 _ u underlying44 hi1 hiz (by rw[his,hul]) (by rw[hul];decide) (by rw[hul];decide) _)) rfl hS7 ?_
      simp only[nz]
      obtain⟨w7,hw7⟩:∃W,w6.alloc (.cells u.toArray 113)=W:=⟨_,rfl⟩
      rw[hw7]at hb7 r7 o7 hS7 ⊢
      clear hw7
      have hS:(fun W'=>W'.rangeAt w4.heap.size 0 [.bool q,x.val]) w7:=hS7
      have z7:=hb7.size
      have V7:=V6.low hb7 (by have:=V6.lb;omega)
      refine zat (i:=1) (d:=some 33) (v:=ov) (w':=w7) rfl (by kernel_rfl) (by rfl) (zg rfl rfl (V7.row 3 _ rfl) underlying44 rfl) rfl hS ?_
      simp only[nz]
      refine zd0 (i:=7) (d:=some 39) rfl (by kernel_rfl) (by rfl) rfl (zbr rfl rfl rfl underlying44 hi1 hiz his (by rw[hib];decide) rfl o7 (by omega) r7 hul hone (by have:=za7 xheS t k;have e:=congrArg List.length e2;rw[List.length_map]at e;omega) hzk) ?_
      rintro v9 w9 ⟨o9,g9,gb9⟩
      have hob:∀g,ov.ownBlock=some g→W1.heap.size+1≤g:=fun g hg=>(o7.lt g hg).1
      have hS9:(fun W'=>W'.rangeAt w4.heap.size 0 [.bool q,x.val]) w9:=zdP hS g9 (by omega) (fun g hg=>by have:=(HO.lt g hg).2;omega)
      refine⟨hS9,?_⟩
      have hS:(fun W'=>W'.rangeAt w4.heap.size 0 [.bool q,x.val]) w9:=hS9
      simp only[nz]
      refine hs_a 8 40 hS ?_
      have b9:Below (W1.heap.size+1) w6 w9:=zaT (B:=W1.heap.size+1) (hb7.mono (by omega)) (by omega) o7 g9
      have V9:=V6.low b9 (by omega)
      have Ve:=V9.set 3 [v9] (za5 V9.row _).2.2.2
      have hSE:(fun W'=>W'.rangeAt w4.heap.size 0 [.bool q,x.val]) (w9.setCells W1.heap.size 3 [v9]):=World.rangeAt_setCells_apart hS _ _ _ (.inl (by omega))
      have hv9:v9.cells=#[v9]∧v9.oneCell'=true:=zdR o9
      refine zS (i:=9) (w':=w9.setCells W1.heap.size 3 [v9]) rfl (by kernel_rfl) (by rfl) (zD (n:=4) rfl rfl rfl V9.box (by decide) iszHds hv9.1 hv9.2) rfl hSE ?_
      refine zv (by kernel_rfl) ?_
      have l8:Below w4.heap.size w4 w8:=hl5.trans (hd8.mono (by omega))
      have HL6:Hid (XH w D X w.heap.size W1.heap.size v1 v2 v3 t (k+1) (w9.setCells W1.heap.size 3 [v9])):=hide (XH.step (by omega) (by omega) het hA hB hC hD hvt (by rw[ep.out,←hx,←hy];rfl) g4 l8 g6 hb7 g9 gb9 e2 HO hys (by rw[hu.out];exact o9) Ve (by rw[es.out];exact S6.low b9 (by omega)))
      clear HV HR HO o6 o7 o8 o9 g9 gb9 b9 S6 g6 hb7 r7 hu hys e2 hA hB hC hD hvt Ve V9 cb cc S8 S4 g4 hl5 hd8 gb8 l8 hS hSE V6 V7 V8
      go_wp2_with fail
      go_roundw
      case rel=>exact⟨k+1,by omega,by go_num,HL6⟩
      case measure=>simp[intOf];omega
   ·have EE:=zdf he N hk
    obtain⟨ee,hee⟩:∃x,(xitG xheS t k).2.2=x:=⟨_,rfl⟩
    rw[hee]at hce he
    have hee':(ee==0)=false:=by simpa using he
    obtain⟨ov,ys,HV,e2,HO,hys⟩:=HX.ex
    have HR:=HX.rs
    have e:xitG xheS t N=xitG xheS t k:=EE
    have hlk:=za7 xheS t k
    have hlen:ys.length≤N:=by have e3:=congrArg List.length e2;rw[List.length_map]at e3;omega
    obtain⟨x,rfl,hx,hA,hB⟩:=zbj (E:=HdE) (ys:=ys) HO (fun y hy=>(hys y hy).1) (by unfold maxLen;omega)
    have rpc:=HV.row
    have hpl:([.int .i64 v1,.int .i64 v2,.int .i64 v3,x.val]:List Value).length=4:=rfl
    have hip:(prog.info? 46).map (·.size)=some ([.int .i64 v1,.int .i64 v2,.int .i64 v3,x.val]:List Value).length:=iszCh
    have hp1:∀v∈([.int .i64 v1,.int .i64 v2,.int .i64 v3,x.val]:List Value),v.oneCell'=true:=by
     intro v hv
     simp only[List.mem_cons,List.not_mem_nil,or_false]at hv
     rcases hv with rfl|rfl|rfl|rfl<;>rfl
    obtain⟨pc,hpc⟩:∃p,Hid (([.int .i64 v1,.int .i64 v2,.int .i64 v3,x.val]:List Value)=p):=⟨_,hide rfl⟩
    rw[hpc.out]at hpl hip hp1 rpc
    have hlow:Below w.heap.size wr (wr.setCells w.heap.size 0 pc):=ze (Nat.le_refl _) pc 0 _ (Below.refl _ wr)
    have hBk:x.Bk (fun b=>w.heap.size<b∧b<wr.heap.size):=fun b _ hb=>⟨by have:=(hB b hb).1;omega,(hB b hb).2.1⟩
    have hBk2:∀y∈x.xs,y.Bk (fun b=>w.heap.size<b∧b<wr.heap.size):=fun y hy=>by rw[hx]at hy;exact(hys y hy).2.2.mono (fun b hb=>⟨by omega,hb.2.1⟩)
    have hrs:=run_loadVar_mid (P:=prog) (wr.setCells w.heap.size 0 pc) w.heap.size 0 46 pc _ (World.rangeAt_setCells_same wr w.heap.size 0 pc (by rw[hpl];exact HV.ans)) underlying46 rfl hip
    have HF:Hid (∃g:Sl Hd,Ending.returned (.agg pc.toArray)=.returned (.agg ([.int .i64 v1,.int .i64 v2,.int .i64 v3,g.val]:List Value).toArray)∧g.xs.map Hd.pure=(xitG xheS t N).1∧HdsAt (wr.setCells w.heap.size 0 pc) g∧g.Bk (fun b=>w.heap.size≤b∧b<(wr.setCells w.heap.size 0 pc).heap.size)∧(∀y∈g.xs,y.Bk (fun b=>w.heap.size≤b∧b<(wr.setCells w.heap.size 0 pc).heap.size))∧XR (wr.setCells w.heap.size 0 pc) D X (xitG xheS t N).2∧w.grownBy (wr.setCells w.heap.size 0 pc) (some X)):=by
     rw[e]
     refine hide ⟨x,by rw[hpc.out],by rw[hx];exact e2,HdsAt.put (P:=fun b=>w.heap.size<b∧b<wr.heap.size) ⟨hA,fun y hy=>by rw[hx]at hy;exact(hys y hy).2.1⟩ hBk hBk2 (fun b hb=>by omega),hBk.mono (fun b hb=>⟨by omega,by rw[zF];exact hb.2⟩),fun y hy=>(hBk2 y hy).mono (fun b hb=>⟨by omega,by rw[zF];exact hb.2⟩),HR.low hlow hXw,zu HV.gr hlow (Nat.le_refl _)⟩
    clear hA hB hBk hBk2 hx hys e2 HO hpc hlow HR EE e HX
    go_upto_region 7 with fail
    refine pl_b ?_
    refine pl_a 18 ?_
    refine pl_a 19 ?_
    refine pl_v 20 (.bool true) (by go_simp<;>(try simp)<;>(try omega)) ?_
    refine pl_a 21 ?_
    refine pl_a 22 ?_
    refine pl_a 23 ?_
    refine pl_a 24 ?_
    refine pl_v 25 (.int .i64 ee) (zg rfl rfl hce underlying3 rfl) ?_
    refine pl_v 26 (.bool false) (by go_simp<;>(try simp[he])) ?_
    refine pl_a 27 ?_
    refine za ?_
    clear hce
    go_upto_region 11 with fail
    refine pl_b ?_
    refine pl_v 41 (.agg pc.toArray) (zp rfl rfl rpc underlying46 rfl hip) ?_
    refine pl_s (wr.setCells w.heap.size 0 pc) (zf (cs:=pc.toArray) rfl rfl rfl (by simpa [hpl]using HV.ans) (by simpa using hip) (zh hp1)) ?_
    refine za ?_
    clear HV rpc
    go_wp2_with fail
    refine bodyPost_ret (v:=.agg pc.toArray) ?_ rfl ?_
    ·simp[results,results119,Act.put,asAddr,hrs]
    ·exact HF.out
  ·have EE:xitG xheS t N=xitG xheS t k:=by rw[show N=k by omega]
   have k2:¬((k:Int)<N):=by omega
   clear hce
   obtain⟨ov,ys,HV,e2,HO,hys⟩:=HX.ex
   have HR:=HX.rs
   have e:xitG xheS t N=xitG xheS t k:=EE
   have hlk:=za7 xheS t k
   have hlen:ys.length≤N:=by have e3:=congrArg List.length e2;rw[List.length_map]at e3;omega
   obtain⟨x,rfl,hx,hA,hB⟩:=zbj (E:=HdE) (ys:=ys) HO (fun y hy=>(hys y hy).1) (by unfold maxLen;omega)
   have rpc:=HV.row
   have hpl:([.int .i64 v1,.int .i64 v2,.int .i64 v3,x.val]:List Value).length=4:=rfl
   have hip:(prog.info? 46).map (·.size)=some ([.int .i64 v1,.int .i64 v2,.int .i64 v3,x.val]:List Value).length:=iszCh
   have hp1:∀v∈([.int .i64 v1,.int .i64 v2,.int .i64 v3,x.val]:List Value),v.oneCell'=true:=by
    intro v hv
    simp only[List.mem_cons,List.not_mem_nil,or_false]at hv
    rcases hv with rfl|rfl|rfl|rfl<;>rfl
   obtain⟨pc,hpc⟩:∃p,Hid (([.int .i64 v1,.int .i64 v2,.int .i64 v3,x.val]:List Value)=p):=⟨_,hide rfl⟩
   rw[hpc.out]at hpl hip hp1 rpc
   have hlow:Below w.heap.size wr (wr.setCells w.heap.size 0 pc):=ze (Nat.le_refl _) pc 0 _ (Below.refl _ wr)
   have hBk:x.Bk (fun b=>w.heap.size<b∧b<wr.heap.size):=fun b _ hb=>⟨by have:=(hB b hb).1;omega,(hB b hb).2.1⟩
   have hBk2:∀y∈x.xs,y.Bk (fun b=>w.heap.size<b∧b<wr.heap.size):=fun y hy=>by rw[hx]at hy;exact(hys y hy).2.2.mono (fun b hb=>⟨by omega,hb.2.1⟩)
   have hrs:=run_loadVar_mid (P:=prog) (wr.setCells w.heap.size 0 pc) w.heap.size 0 46 pc _ (World.rangeAt_setCells_same wr w.heap.size 0 pc (by rw[hpl];exact HV.ans)) underlying46 rfl hip
   have HF:Hid (∃g:Sl Hd,Ending.returned (.agg pc.toArray)=.returned (.agg ([.int .i64 v1,.int .i64 v2,.int .i64 v3,g.val]:List Value).toArray)∧g.xs.map Hd.pure=(xitG xheS t N).1∧HdsAt (wr.setCells w.heap.size 0 pc) g∧g.Bk (fun b=>w.heap.size≤b∧b<(wr.setCells w.heap.size 0 pc).heap.size)∧(∀y∈g.xs,y.Bk (fun b=>w.heap.size≤b∧b<(wr.setCells w.heap.size 0 pc).heap.size))∧XR (wr.setCells w.heap.size 0 pc) D X (xitG xheS t N).2∧w.grownBy (wr.setCells w.heap.size 0 pc) (some X)):=by
    rw[e]
    refine hide ⟨x,by rw[hpc.out],by rw[hx];exact e2,HdsAt.put (P:=fun b=>w.heap.size<b∧b<wr.heap.size) ⟨hA,fun y hy=>by rw[hx]at hy;exact(hys y hy).2.1⟩ hBk hBk2 (fun b hb=>by omega),hBk.mono (fun b hb=>⟨by omega,by rw[zF];exact hb.2⟩),fun y hy=>(hBk2 y hy).mono (fun b hb=>⟨by omega,by rw[zF];exact hb.2⟩),HR.low hlow hXw,zu HV.gr hlow (Nat.le_refl _)⟩
   clear hA hB hBk hBk2 hx hys e2 HO hpc hlow HR EE e HX
   go_upto_region 7 with fail
   refine pl_b ?_
   refine pl_a 18 ?_
   refine pl_a 19 ?_
   refine pl_v 20 (.bool false) (by go_simp<;>(try simp)<;>(try omega)) ?_
   refine pl_a 21 ?_
   refine pl_k 22 ?_
   refine pl_k 23 ?_
   refine pl_k 24 ?_
   refine pl_k 25 ?_
   refine pl_k 26 ?_
   refine pl_a 27 ?_
   refine za ?_
   go_upto_region 11 with fail
   refine pl_b ?_
   refine pl_v 41 (.agg pc.toArray) (zp rfl rfl rpc underlying46 rfl hip) ?_
   refine pl_s (wr.setCells w.heap.size 0 pc) (zf (cs:=pc.toArray) rfl rfl rfl (by simpa [hpl]using HV.ans) (by simpa using hip) (zh hp1)) ?_
   refine za ?_
   clear HV rpc
   go_wp2_with fail
   refine bodyPost_ret (v:=.agg pc.toArray) ?_ rfl ?_
   ·simp[results,results119,Act.put,asAddr,hrs]
   ·exact HF.out
def xmg1 (s:Xst):Mp ×Xst:=(⟨1,(xnuS 1048576 s).1,0,0,(xnuS 1099511627776 (xnuS 1048576 s).2).1,(xbaS (xnuS 1099511627776 (xnuS 1048576 s).2).2).1.1,(xbaS (xnuS 1099511627776 (xnuS 1048576 s).2).2).1.2,Vt.zero,0,0,0,[],[],zb,Vt.zero,[],⟨#[]⟩,[]⟩,(xbaS (xnuS 1099511627776 (xnuS 1048576 s).2).2).2)
def xmg2 (s:Xst):Mp ×Xst:=(⟨2,0,0,0,0,false,[],(xvoS s).1,0,0,0,[],[],zb,Vt.zero,[],⟨#[]⟩,[]⟩,(xvoS s).2)
def xmg3 (s:Xst):Mp ×Xst:=(⟨3,0,0,0,0,false,[],Vt.zero,(xchS s).1.e,(xchS s).1.l,(xchS s).1.v,(xchS s).1.he,[],zb,Vt.zero,[],⟨#[]⟩,[]⟩,(xchS s).2)
def xmg4 (s:Xst):Mp ×Xst:=(⟨4,(xnuS 1048576 s).1,(xnuS 64 (xnuS 1048576 s).2).1,(xnuS 1099511627776 (xnuS 64 (xnuS 1048576 s).2).2).1,0,false,[],Vt.zero,0,0,0,[],(xlsS 64 xenS (xnuS 1099511627776 (xnuS 64 (xnuS 1048576 s).2).2).2).1,zb,Vt.zero,[],⟨#[]⟩,[]⟩,(xlsS 64 xenS (xnuS 1099511627776 (xnuS 64 (xnuS 1048576 s).2).2).2).2)
def xmg5 (s:Xst):Mp ×Xst:=(⟨5,(xnuS 1048576 s).1,0,0,0,false,[],Vt.zero,0,0,0,[],[],(xdgS (xnuS 1048576 s).2).1,Vt.zero,[],⟨#[]⟩,[]⟩,(xdgS (xnuS 1048576 s).2).2)
def xmg6 (s:Xst):Mp ×Xst:=(⟨6,(xnuS 1048576 s).1,0,0,(xnuS 1099511627776 (xnuS 1048576 s).2).1,false,[],Vt.zero,0,0,0,[],[],zb,Vt.zero,[],⟨#[]⟩,[]⟩,(xnuS 1099511627776 (xnuS 1048576 s).2).2)
def xmg7 (s:Xst):Mp ×Xst:=(⟨7,0,0,0,0,(xbaS s).1.1,(xbaS s).1.2,Vt.zero,0,0,0,[],[],zb,(xceS (xbaS s).2).1.1,(xceS (xbaS s).2).1.2,⟨#[]⟩,[]⟩,(xceS (xbaS s).2).2)
def xmg8 (s:Xst):Mp ×Xst:=(⟨8,0,0,0,0,false,[],Vt.zero,0,0,0,[],[],zb,Vt.zero,[],(xtxS 4194304 s).1,(xlsS 64 xsiS (xtxS 4194304 s).2).1⟩,(xlsS 64 xsiS (xtxS 4194304 s).2).2)
def xmgF (k:Int) (s:Xst):Mp ×Xst:=if k=1 then xmg1 s else if k=2 then xmg2 s else if k=3 then xmg3 s else if k=4 then xmg4 s else if k=5 then xmg5 s else if k=6 then xmg6 s else if k=7 then xmg7 s else if k=8 then xmg8 s else(⟨k,0,0,0,0,false,[],Vt.zero,0,0,0,[],[],zb,Vt.zero,[],⟨#[]⟩,[]⟩,s)
theorem zaC {P:Program} {o:Oper} {a:Act} {w:World} {t:TypeId} {x:Operand} {u:Array Value} (ho:o.op=.box t x) (hx:a.eval x=.agg u):(execOp a.eval o).run P w=.ok (.value (.pointer (some ⟨w.heap.size,0,none⟩))) (w.alloc (.cells u t)):=by
 unfold execOp
 simp[ho,hx,Instr.box,newVar,newRow,Value.cells]
theorem zh2 (s:Xst) (hb:s.2=0→Bs s.1):(xdgS s).1.length=32∧∀z∈(xdgS s).1,0≤z∧z<256:=⟨zaf _ _,zbW (zby hb)⟩
theorem Sl.At.gbx {α:Type} {E:El α} {w w':World} {X:Nat} {x:Sl α} {P:Nat→Prop} (h:x.At E w) (g:w.grownBy w' (some X)) (hb:x.Bk P) (hp:∀b,P b→b≠X):x.At E w':=
 h.on g.size hb (fun b hP hlt=>g.block b hlt (fun q=>by injection q with q;exact hp b hP q))
structure XW (w:World) (D X A B n:Nat) (q:List Value) (s:Xst) (W:World):Prop where
 row:W.rangeAt B 0 q
 box:W.there B 0 n
 ans:W.there A 0 n
 gr:w.grownBy W (some X)
 rs:XR W D X s
 la:A<W.heap.size
 lb:B<W.heap.size
 na:w.heap.size≤A
 nb:w.heap.size≤B
 ne:A≠B
 lx:X<w.heap.size
theorem XW.on {w W W':World} {D X A B n:Nat} {q:List Value} {s s':Xst} (h:XW w D X A B n q s W) (g:W.grownBy W' (some X)) (S:XR W' D X s'):XW w D X A B n q s' W':=by
 have h1:=h.na
 have h2:=h.nb
 have h3:=h.lx
 exact⟨zaM h.row g h.lb (by omega),zJ h.box g h.lb (by omega),zJ h.ans g h.la (by omega),zr h.gr g,S,Nat.lt_of_lt_of_le h.la g.size,Nat.lt_of_lt_of_le h.lb g.size,h1,h2,h.ne,h3⟩
theorem XW.set {w W:World} {D X A B n:Nat} {q q':List Value} {s:Xst} (h:XW w D X A B n q s W) (o:Nat) (vs:List Value) (hq:(W.setCells B o vs).rangeAt B 0 q'):XW w D X A B n q' s (W.setCells B o vs):=by
 have h2:=h.nb
 have h3:=h.lx
 have lo:Below w.heap.size W (W.setCells B o vs):=ze h2 vs o _ (Below.refl _ W)
 exact⟨hq,World.there_setCells h.box _ _ _,World.there_setCells h.ans _ _ _,zu h.gr lo (Nat.le_refl _),h.rs.low lo h3,by rw[zF];exact h.la,by rw[zF];exact h.lb,h.na,h2,h.ne,h3⟩
theorem XW.part {w W:World} {D X A B n:Nat} {q:List Value} {s:Xst} (h:XW w D X A B n q s W) (o m:Nat) (hm:o+m≤n):W.there B o m:=zaQ h.box hm
theorem zhU (D X:Nat) (s:Xst) (w:World) (h:XR w D X s) (k:Int) (n1:k≠1) (n2:k≠2) (n3:k≠3) (n4:k≠4) (n5:k≠5) (n6:k≠6) (n7:k≠7) (n8:k≠8):Calls prog 68 #[.pointer (some ⟨X,0,none⟩),.agg (Ms.plain k 0 0 Vt.zero zb).cells.toArray] w fun en w'=>∃m:Mg,en=.returned (.agg m.ms.cells.toArray)∧m.pure=((⟨k,0,0,0,0,false,[],Vt.zero,0,0,0,[],[],zb,Vt.zero,[],⟨#[]⟩,[]⟩,s):Mp ×Xst).1∧m.ok∧m.At w'∧m.Bk (fun b=>w.heap.size≤b)∧XR w' D X ((⟨k,0,0,0,0,false,[],Vt.zero,0,0,0,[],[],zb,Vt.zero,[],⟨#[]⟩,[]⟩,s):Mp ×Xst).2∧w.grownBy w' (some X):=by
 have hXw:=h.lx
 have b1:(k==1)=false:=by simpa using n1
 have b2:(k==2)=false:=by simpa using n2
 have b3:(k==3)=false:=by simpa using n3
 have b4:(k==4)=false:=by simpa using n4
 have b5:(k==5)=false:=by simpa using n5
 have b6:(k==6)=false:=by simpa using n6
 have b7:(k==7)=false:=by simpa using n7
 have b8:(k==8)=false:=by simpa using n8
 clear n1 n2 n3 n4 n5 n6 n7 n8
 obtain⟨zc,hzl,hzr⟩:∃z:List Value,z.length=119∧∀w:World,(zeroValue 52).run prog w=.ok (.agg z.toArray) w:=⟨_,(Ms.plain_ok 0 0 0 Vt.zero_ok zw zG).len,zeroM⟩
 have hql:=(zE k).len
 have hk0:∀(w':World) b,w'.rangeAt b 0 (Ms.plain k 0 0 Vt.zero zb).cells→w'.cell? ⟨b,0,none⟩=some (.int .i64 k):=fun w' b h=>((zE k).at h).k
 obtain⟨qk,hqk⟩:∃q,Hid ((Ms.plain k 0 0 Vt.zero zb).cells=q):=⟨_,hide rfl⟩
 simp only[hqk.out]at hql hk0 ⊢
 obtain⟨hB1,hr1,hs1⟩:=zq w qk 52
 have ht1:=zi w qk.toArray 52 (n:=119) (by simp[hql])
 go_enter func68,ntmps68
 go_upto_region 0 with fail
 refine pl_b ?_
 refine pl_r 3 (.pointer (some ⟨w.heap.size,0,none⟩)) (w.alloc (.cells qk.toArray 52)) (zaC rfl rfl) ?_
 obtain⟨W1,hW1⟩:∃W,w.alloc (.cells qk.toArray 52)=W:=⟨_,rfl⟩
 rw[hW1]at hB1 hr1 hs1 ht1 ⊢
 clear hW1
 refine pl_r 4 (.pointer (some ⟨W1.heap.size,0,none⟩)) (W1.alloc (.cells zc.toArray 52)) (zo rfl (hzr _)) ?_
 refine za ?_
 obtain⟨hB2,hr2,hs2⟩:=zq W1 zc 52
 have ht2:=zi W1 zc.toArray 52 (n:=119) (by simp[hzl])
 obtain⟨W2,hW2⟩:∃W,W1.alloc (.cells zc.toArray 52)=W:=⟨_,rfl⟩
 rw[hW2]at hB2 hr2 hs2 ht2 ⊢
 clear hW2 hr2
 have hBW:=hB1.trans (hB2.mono hB1.size)
 have hr3:=zd hr1 hB2 hs1
 have hc0:=hk0 _ _ hr3
 rw[←hqk.out]at hr3
 have V0:XW w D X W1.heap.size w.heap.size 119 (Ms.plain k 0 0 Vt.zero zb).cells s W2:=⟨hr3,zam ht1 hB2 hs1,ht2,zW hBW _,h.below hBW,hs2,by have:=hB2.size;omega,hB1.size,Nat.le_refl _,by omega,hXw⟩
 clear hr3 ht1 ht2 hB1 hB2 hBW hr1 hk0 hqk h hzr hzl hql
 go_upto_region 1 with fail
 refine pl_b ?_
 refine pl_a 5 ?_
 refine pl_v 6 (.int .i64 k) (zg rfl rfl hc0 underlying3 rfl) ?_
 refine za ?_
 clear hc0
 have rpc:=V0.row
 have hmo:Mg.ok ⟨k,0,0,0,0,false,⟨none,0,[]⟩,Vt.zero,0,0,0,⟨none,0,[]⟩,⟨none,0,[]⟩,zb,Vt.zero,⟨none,0,[]⟩,⟨#[]⟩,⟨none,0,[]⟩⟩:=⟨Vt.zero_ok,Vt.zero_ok,zw,zG⟩
 have hpl:(Mg.ms ⟨k,0,0,0,0,false,⟨none,0,[]⟩,Vt.zero,0,0,0,⟨none,0,[]⟩,⟨none,0,[]⟩,zb,Vt.zero,⟨none,0,[]⟩,⟨#[]⟩,⟨none,0,[]⟩⟩).cells.length=119:=hmo.ms.len
 have hp1:=hmo.ms.one
 have hip:(prog.info? 52).map (·.size)=some (Mg.ms ⟨k,0,0,0,0,false,⟨none,0,[]⟩,Vt.zero,0,0,0,⟨none,0,[]⟩,⟨none,0,[]⟩,zb,Vt.zero,⟨none,0,[]⟩,⟨#[]⟩,⟨none,0,[]⟩⟩).cells.length:=by rw[hpl];exact iszM
 have rpc:W2.rangeAt w.heap.size 0 (Mg.ms ⟨k,0,0,0,0,false,⟨none,0,[]⟩,Vt.zero,0,0,0,⟨none,0,[]⟩,⟨none,0,[]⟩,zb,Vt.zero,⟨none,0,[]⟩,⟨#[]⟩,⟨none,0,[]⟩⟩).cells:=rpc
 obtain⟨pc,hpc⟩:∃p,Hid ((Mg.ms ⟨k,0,0,0,0,false,⟨none,0,[]⟩,Vt.zero,0,0,0,⟨none,0,[]⟩,⟨none,0,[]⟩,zb,Vt.zero,⟨none,0,[]⟩,⟨#[]⟩,⟨none,0,[]⟩⟩).cells=p):=⟨_,hide rfl⟩
 simp only[hpc.out]at hpl hip hp1 rpc
 go_upto_region 27 with fail
 refine pl_b ?_
 refine pl_v 74 (.agg pc.toArray) (zp rfl rfl rpc underlying52 rfl hip) ?_
 refine pl_s (W2.setCells W1.heap.size 0 pc) (zf (cs:=pc.toArray) rfl rfl rfl (by simpa [hpl]using V0.ans) (by simpa using hip) (zh hp1)) ?_
 refine za ?_
 have hlow:Below w.heap.size W2 (W2.setCells W1.heap.size 0 pc):=ze V0.na pc 0 _ (Below.refl _ W2)
 have hrs:=run_loadVar_mid (P:=prog) (W2.setCells W1.heap.size 0 pc) W1.heap.size 0 52 pc _ (World.rangeAt_setCells_same W2 W1.heap.size 0 pc (by rw[hpl];exact V0.ans)) underlying52 rfl hip
 have HF:Hid (∃m:Mg,Ending.returned (.agg pc.toArray)=.returned (.agg m.ms.cells.toArray)∧m.pure=(⟨k,0,0,0,0,false,[],Vt.zero,0,0,0,[],[],zb,Vt.zero,[],⟨#[]⟩,[]⟩:Mp)∧m.ok∧m.At (W2.setCells W1.heap.size 0 pc)∧m.Bk (fun b=>w.heap.size≤b)∧XR (W2.setCells W1.heap.size 0 pc) D X s∧w.grownBy (W2.setCells W1.heap.size 0 pc) (some X)):=hide ⟨⟨k,0,0,0,0,false,⟨none,0,[]⟩,Vt.zero,0,0,0,⟨none,0,[]⟩,⟨none,0,[]⟩,zb,Vt.zero,⟨none,0,[]⟩,⟨#[]⟩,⟨none,0,[]⟩⟩,by rw[hpc.out],rfl,hmo,zai RowsAt.none zV RowsAt.none RowsAt.none RowsAt.none,⟨zm,zm,zah,zm,zm,zm⟩,V0.rs.low hlow hXw,zu V0.gr hlow (Nat.le_refl _)⟩
 clear V0 hlow rpc hpc hmo
 go_wp2_with fail
 refine bodyPost_ret (v:=.agg pc.toArray) ?_ rfl ?_
 ·simp[results,results68,Act.put,asAddr,hrs]
 ·exact HF.out
theorem zhT (D X:Nat) (s:Xst) (w:World) (h:XR w D X s):Calls prog 68 #[.pointer (some ⟨X,0,none⟩),.agg (Ms.plain 1 0 0 Vt.zero zb).cells.toArray] w fun en w'=>∃m:Mg,en=.returned (.agg m.ms.cells.toArray)∧m.pure=(xmg1 s).1∧m.ok∧m.At w'∧m.Bk (fun b=>w.heap.size≤b)∧XR w' D X (xmg1 s).2∧w.grownBy w' (some X):=by
 have hXw:=h.lx
 unfold xmg1
 have c_a:=fun w0 h0=>xnumS D X 1048576 s w0 h0
 generalize xnuS 1048576 s=p_ at c_a ⊢
 obtain⟨v_a,s_a⟩:=p_
 simp only at c_a ⊢
 have c_b:=fun w0 h0=>xnumS D X 1099511627776 s_a w0 h0
 generalize xnuS 1099511627776 s_a=p_ at c_b ⊢
 obtain⟨v_b,s_b⟩:=p_
 simp only at c_b ⊢
 have c_c:=fun w0 h0=>xbatS D X s_b w0 h0
 generalize xbaS s_b=p_ at c_c ⊢
 obtain⟨⟨q_c,rs_c⟩,s_c⟩:=p_
 simp only at c_c ⊢
 obtain⟨zc,hzl,hzr⟩:∃z:List Value,z.length=119∧∀w:World,(zeroValue 52).run prog w=.ok (.agg z.toArray) w:=⟨_,(Ms.plain_ok 0 0 0 Vt.zero_ok zw zG).len,zeroM⟩
 have hql:=(zE 1).len
 have hk0:∀(w':World) b,w'.rangeAt b 0 (Ms.plain 1 0 0 Vt.zero zb).cells→w'.cell? ⟨b,0,none⟩=some (.int .i64 1):=fun w' b h=>((zE 1).at h).k
 obtain⟨qk,hqk⟩:∃q,Hid ((Ms.plain 1 0 0 Vt.zero zb).cells=q):=⟨_,hide rfl⟩
 simp only[hqk.out]at hql hk0 ⊢
 obtain⟨hB1,hr1,hs1⟩:=zq w qk 52
 have ht1:=zi w qk.toArray 52 (n:=119) (by simp[hql])
 go_enter func68,ntmps68
 go_upto_region 0 with fail
 refine pl_b ?_
 refine pl_r 3 (.pointer (some ⟨w.heap.size,0,none⟩)) (w.alloc (.cells qk.toArray 52)) (zaC rfl rfl) ?_
 obtain⟨W1,hW1⟩:∃W,w.alloc (.cells qk.toArray 52)=W:=⟨_,rfl⟩
 rw[hW1]at hB1 hr1 hs1 ht1 ⊢
 clear hW1
 refine pl_r 4 (.pointer (some ⟨W1.heap.size,0,none⟩)) (W1.alloc (.cells zc.toArray 52)) (zo rfl (hzr _)) ?_
 refine za ?_
 obtain⟨hB2,hr2,hs2⟩:=zq W1 zc 52
 have ht2:=zi W1 zc.toArray 52 (n:=119) (by simp[hzl])
 obtain⟨W2,hW2⟩:∃W,W1.alloc (.cells zc.toArray 52)=W:=⟨_,rfl⟩
 rw[hW2]at hB2 hr2 hs2 ht2 ⊢
 clear hW2 hr2
 have hBW:=hB1.trans (hB2.mono hB1.size)
 have hr3:=zd hr1 hB2 hs1
 have hc0:=hk0 _ _ hr3
 rw[←hqk.out]at hr3
 have V0:XW w D X W1.heap.size w.heap.size 119 (Ms.plain 1 0 0 Vt.zero zb).cells s W2:=⟨hr3,zam ht1 hB2 hs1,ht2,zW hBW _,h.below hBW,hs2,by have:=hB2.size;omega,hB1.size,Nat.le_refl _,by omega,hXw⟩
 clear hr3 ht1 ht2 hB1 hB2 hBW hr1 hk0 hqk h hzr hzl hql
 go_upto_region 1 with fail
 refine pl_b ?_
 refine pl_a 5 ?_
 refine pl_v 6 (.int .i64 1) (zg rfl rfl hc0 underlying3 rfl) ?_
 refine za ?_
 clear hc0
 go_upto_region 3 with fail
 refine pl_b ?_
 refine pl_a 9 ?_
 refine pl_c 10 ?_
 refine(c_a W2 V0.rs).mono ?_
 rintro _ w1a ⟨rfl,S1,g1⟩
 refine⟨_,rfl,?_⟩
 simp only[nz]
 refine pl_a 11 ?_
 have U1:=V0.on g1 S1
 have V1:=U1.set 1 [.int .i64 v_a] (za9 v_a U1.row (U1.part 1 1 (by decide)))
 have zz1:=V0.gr.size
 have lb1:=V0.lb
 have la1:=V0.la
 have yy1:=g1.size
 refine pl_s (w1a.setCells w.heap.size 1 [.int .i64 v_a]) (zD (n:=119) rfl rfl rfl U1.box (by decide) iszI rfl rfl) ?_
 refine za ?_
 clear S1 U1 V0 c_a
 obtain⟨w1b,hw1b⟩:∃W,w1a.setCells w.heap.size 1 [.int .i64 v_a]=W:=⟨_,rfl⟩
 rw[hw1b]at V1 ⊢
 clear hw1b
 go_upto_region 4 with fail
 refine pl_b ?_
 refine pl_a 12 ?_
 refine pl_c 13 ?_
 refine(c_b w1b V1.rs).mono ?_
 rintro _ w2a ⟨rfl,S2,g2⟩
 refine⟨_,rfl,?_⟩
 simp only[nz]
 refine pl_a 14 ?_
 have U2:=V1.on g2 S2
 have V2:=U2.set 4 [.int .i64 v_b] (zcb v_b U2.row (U2.part 4 1 (by decide)))
 have zz2:=V1.gr.size
 have lb2:=V1.lb
 have la2:=V1.la
 have yy2:=g2.size
 refine pl_s (w2a.setCells w.heap.size 4 [.int .i64 v_b]) (zD (n:=119) rfl rfl rfl U2.box (by decide) iszI rfl rfl) ?_
 refine za ?_
 clear S2 U2 V1 c_b
 obtain⟨w2b,hw2b⟩:∃W,w2a.setCells w.heap.size 4 [.int .i64 v_b]=W:=⟨_,rfl⟩
 rw[hw2b]at V2 ⊢
 clear hw2b
 go_upto_region 5 with fail
 refine pl_b ?_
 refine pl_a 15 ?_
 refine pl_c 16 ?_
 refine(c_c w2b V2.rs).mono ?_
 rintro _ w3a ⟨x,rfl,hx,hA,hB,S3,g3⟩
 refine⟨_,rfl,?_⟩
 simp only[nz]
 refine pl_a 17 ?_
 have U3:=V2.on g3 S3
 have V3:=U3.set 5 [.bool q_c,x.val] (zcc q_c x.val U3.row (U3.part 5 2 (by decide)))
 have zz3:=V2.gr.size
 have lb3:=V2.lb
 have la3:=V2.la
 have yy3:=g3.size
 refine pl_s (w3a.setCells w.heap.size 5 [.bool q_c,x.val]) (zf (cs:=#[.bool q_c,x.val]) rfl rfl rfl (U3.part 5 2 (by decide)) iszBa (by simp[Value.oneCell',Sl.val])) ?_
 refine za ?_
 have hA3:=hA.put (B:=w.heap.size) (o:=5) (vs:=[.bool q_c,x.val]) hB (fun b hb=>by omega)
 clear hA
 clear S3 U3 V2 c_c
 obtain⟨w3b,hw3b⟩:∃W,w3a.setCells w.heap.size 5 [.bool q_c,x.val]=W:=⟨_,rfl⟩
 rw[hw3b]at V3 hA3 ⊢
 clear hw3b
 have rpc:=V3.row
 have hmo:Mg.ok ⟨1,v_a,0,0,v_b,q_c,x,Vt.zero,0,0,0,⟨none,0,[]⟩,⟨none,0,[]⟩,zb,Vt.zero,⟨none,0,[]⟩,⟨#[]⟩,⟨none,0,[]⟩⟩:=⟨Vt.zero_ok,Vt.zero_ok,zw,zG⟩
 have hpl:(Mg.ms ⟨1,v_a,0,0,v_b,q_c,x,Vt.zero,0,0,0,⟨none,0,[]⟩,⟨none,0,[]⟩,zb,Vt.zero,⟨none,0,[]⟩,⟨#[]⟩,⟨none,0,[]⟩⟩).cells.length=119:=hmo.ms.len
 have hp1:=hmo.ms.one
 have hip:(prog.info? 52).map (·.size)=some (Mg.ms ⟨1,v_a,0,0,v_b,q_c,x,Vt.zero,0,0,0,⟨none,0,[]⟩,⟨none,0,[]⟩,zb,Vt.zero,⟨none,0,[]⟩,⟨#[]⟩,⟨none,0,[]⟩⟩).cells.length:=by rw[hpl];exact iszM
 have rpc:w3b.rangeAt w.heap.size 0 (Mg.ms ⟨1,v_a,0,0,v_b,q_c,x,Vt.zero,0,0,0,⟨none,0,[]⟩,⟨none,0,[]⟩,zb,Vt.zero,⟨none,0,[]⟩,⟨#[]⟩,⟨none,0,[]⟩⟩).cells:=rpc
 obtain⟨pc,hpc⟩:∃p,Hid ((Mg.ms ⟨1,v_a,0,0,v_b,q_c,x,Vt.zero,0,0,0,⟨none,0,[]⟩,⟨none,0,[]⟩,zb,Vt.zero,⟨none,0,[]⟩,⟨#[]⟩,⟨none,0,[]⟩⟩).cells=p):=⟨_,hide rfl⟩
 simp only[hpc.out]at hpl hip hp1 rpc
 go_upto_region 27 with fail
 refine pl_b ?_
 refine pl_v 74 (.agg pc.toArray) (zp rfl rfl rpc underlying52 rfl hip) ?_
 refine pl_s (w3b.setCells W1.heap.size 0 pc) (zf (cs:=pc.toArray) rfl rfl rfl (by simpa [hpl]using V3.ans) (by simpa using hip) (zh hp1)) ?_
 refine za ?_
 have hlow:Below w.heap.size w3b (w3b.setCells W1.heap.size 0 pc):=ze V3.na pc 0 _ (Below.refl _ w3b)
 have hrs:=run_loadVar_mid (P:=prog) (w3b.setCells W1.heap.size 0 pc) W1.heap.size 0 52 pc _ (World.rangeAt_setCells_same w3b W1.heap.size 0 pc (by rw[hpl];exact V3.ans)) underlying52 rfl hip
 have HF:Hid (∃m:Mg,Ending.returned (.agg pc.toArray)=.returned (.agg m.ms.cells.toArray)∧m.pure=(⟨1,v_a,0,0,v_b,q_c,rs_c,Vt.zero,0,0,0,[],[],zb,Vt.zero,[],⟨#[]⟩,[]⟩:Mp)∧m.ok∧m.At (w3b.setCells W1.heap.size 0 pc)∧m.Bk (fun b=>w.heap.size≤b)∧XR (w3b.setCells W1.heap.size 0 pc) D X s_c∧w.grownBy (w3b.setCells W1.heap.size 0 pc) (some X)):=hide ⟨⟨1,v_a,0,0,v_b,q_c,x,Vt.zero,0,0,0,⟨none,0,[]⟩,⟨none,0,[]⟩,zb,Vt.zero,⟨none,0,[]⟩,⟨#[]⟩,⟨none,0,[]⟩⟩,by rw[hpc.out],by rw[←hx];rfl,hmo,zai (hA3.put hB (fun b hb=>by omega)) zV RowsAt.none RowsAt.none RowsAt.none,⟨hB.mono (fun b hb=>by omega),zm,zah,zm,zm,zm⟩,V3.rs.low hlow hXw,zu V3.gr hlow (Nat.le_refl _)⟩
 clear V3 hlow rpc hpc hmo hx hB hA3
 go_wp2_with fail
 refine bodyPost_ret (v:=.agg pc.toArray) ?_ rfl ?_
 ·simp[results,results68,Act.put,asAddr,hrs]
 ·exact HF.out
theorem zhS (D X:Nat) (s:Xst) (w:World) (h:XR w D X s):Calls prog 68 #[.pointer (some ⟨X,0,none⟩),.agg (Ms.plain 2 0 0 Vt.zero zb).cells.toArray] w fun en w'=>∃m:Mg,en=.returned (.agg m.ms.cells.toArray)∧m.pure=(xmg2 s).1∧m.ok∧m.At w'∧m.Bk (fun b=>w.heap.size≤b)∧XR w' D X (xmg2 s).2∧w.grownBy w' (some X):=by
 have hXw:=h.lx
 unfold xmg2
 have c_a:=fun w0 h0=>xvoteS D X s w0 h0
 have ok_a:=fun hb=>zeC s hb
 generalize xvoS s=p_ at c_a ok_a ⊢
 obtain⟨v_a,s_a⟩:=p_
 simp only at c_a ok_a ⊢
 obtain⟨zc,hzl,hzr⟩:∃z:List Value,z.length=119∧∀w:World,(zeroValue 52).run prog w=.ok (.agg z.toArray) w:=⟨_,(Ms.plain_ok 0 0 0 Vt.zero_ok zw zG).len,zeroM⟩
 have hql:=(zE 2).len
 have hk0:∀(w':World) b,w'.rangeAt b 0 (Ms.plain 2 0 0 Vt.zero zb).cells→w'.cell? ⟨b,0,none⟩=some (.int .i64 2):=fun w' b h=>((zE 2).at h).k
 obtain⟨qk,hqk⟩:∃q,Hid ((Ms.plain 2 0 0 Vt.zero zb).cells=q):=⟨_,hide rfl⟩
 simp only[hqk.out]at hql hk0 ⊢
 obtain⟨hB1,hr1,hs1⟩:=zq w qk 52
 have ht1:=zi w qk.toArray 52 (n:=119) (by simp[hql])
 go_enter func68,ntmps68
 go_upto_region 0 with fail
 refine pl_b ?_
 refine pl_r 3 (.pointer (some ⟨w.heap.size,0,none⟩)) (w.alloc (.cells qk.toArray 52)) (zaC rfl rfl) ?_
 obtain⟨W1,hW1⟩:∃W,w.alloc (.cells qk.toArray 52)=W:=⟨_,rfl⟩
 rw[hW1]at hB1 hr1 hs1 ht1 ⊢
 clear hW1
 refine pl_r 4 (.pointer (some ⟨W1.heap.size,0,none⟩)) (W1.alloc (.cells zc.toArray 52)) (zo rfl (hzr _)) ?_
 refine za ?_
 obtain⟨hB2,hr2,hs2⟩:=zq W1 zc 52
 have ht2:=zi W1 zc.toArray 52 (n:=119) (by simp[hzl])
 obtain⟨W2,hW2⟩:∃W,W1.alloc (.cells zc.toArray 52)=W:=⟨_,rfl⟩
 rw[hW2]at hB2 hr2 hs2 ht2 ⊢
 clear hW2 hr2
 have hBW:=hB1.trans (hB2.mono hB1.size)
 have hr3:=zd hr1 hB2 hs1
 have hc0:=hk0 _ _ hr3
 rw[←hqk.out]at hr3
 have V0:XW w D X W1.heap.size w.heap.size 119 (Ms.plain 2 0 0 Vt.zero zb).cells s W2:=⟨hr3,zam ht1 hB2 hs1,ht2,zW hBW _,h.below hBW,hs2,by have:=hB2.size;omega,hB1.size,Nat.le_refl _,by omega,hXw⟩
 clear hr3 ht1 ht2 hB1 hB2 hBW hr1 hk0 hqk h hzr hzl hql
 go_upto_region 1 with fail
 refine pl_b ?_
 refine pl_a 5 ?_
 refine pl_v 6 (.int .i64 2) (zg rfl rfl hc0 underlying3 rfl) ?_
 refine za ?_
 clear hc0
 go_upto_region 7 with fail
 refine pl_b ?_
 refine pl_a 20 ?_
 refine pl_c 21 ?_
 refine(c_a W2 V0.rs).mono ?_
 rintro _ w1a ⟨rfl,S1,g1⟩
 refine⟨_,rfl,?_⟩
 simp only[nz]
 refine pl_a 22 ?_
 have U1:=V0.on g1 S1
 have hv:=ok_a V0.rs.st.bs
 have hvl:=hv.len
 have V1:=U1.set 7 v_a.cells (zfN v_a hv Vt.zero_ok U1.row (U1.part 7 36 (by decide)))
 have zz1:=V0.gr.size
 have lb1:=V0.lb
 have la1:=V0.la
 have yy1:=g1.size
 refine pl_s (w1a.setCells w.heap.size 7 v_a.cells) (zf (cs:=v_a.cells.toArray) rfl rfl rfl (by simpa [hvl]using U1.part 7 36 (by decide)) (by simpa [hvl]using iszVo) (zh (Vt.one v_a))) ?_
 refine za ?_
 clear S1 U1 V0 c_a
 obtain⟨w1b,hw1b⟩:∃W,w1a.setCells w.heap.size 7 v_a.cells=W:=⟨_,rfl⟩
 rw[hw1b]at V1 ⊢
 clear hw1b
 have rpc:=V1.row
 have hmo:Mg.ok ⟨2,0,0,0,0,false,⟨none,0,[]⟩,v_a,0,0,0,⟨none,0,[]⟩,⟨none,0,[]⟩,zb,Vt.zero,⟨none,0,[]⟩,⟨#[]⟩,⟨none,0,[]⟩⟩:=⟨hv,Vt.zero_ok,zw,zG⟩
 have hpl:(Mg.ms ⟨2,0,0,0,0,false,⟨none,0,[]⟩,v_a,0,0,0,⟨none,0,[]⟩,⟨none,0,[]⟩,zb,Vt.zero,⟨none,0,[]⟩,⟨#[]⟩,⟨none,0,[]⟩⟩).cells.length=119:=hmo.ms.len
 have hp1:=hmo.ms.one
 have hip:(prog.info? 52).map (·.size)=some (Mg.ms ⟨2,0,0,0,0,false,⟨none,0,[]⟩,v_a,0,0,0,⟨none,0,[]⟩,⟨none,0,[]⟩,zb,Vt.zero,⟨none,0,[]⟩,⟨#[]⟩,⟨none,0,[]⟩⟩).cells.length:=by rw[hpl];exact iszM
 have rpc:w1b.rangeAt w.heap.size 0 (Mg.ms ⟨2,0,0,0,0,false,⟨none,0,[]⟩,v_a,0,0,0,⟨none,0,[]⟩,⟨none,0,[]⟩,zb,Vt.zero,⟨none,0,[]⟩,⟨#[]⟩,⟨none,0,[]⟩⟩).cells:=rpc
 obtain⟨pc,hpc⟩:∃p,Hid ((Mg.ms ⟨2,0,0,0,0,false,⟨none,0,[]⟩,v_a,0,0,0,⟨none,0,[]⟩,⟨none,0,[]⟩,zb,Vt.zero,⟨none,0,[]⟩,⟨#[]⟩,⟨none,0,[]⟩⟩).cells=p):=⟨_,hide rfl⟩
 simp only[hpc.out]at hpl hip hp1 rpc
 go_upto_region 27 with fail
 refine pl_b ?_
 refine pl_v 74 (.agg pc.toArray) (zp rfl rfl rpc underlying52 rfl hip) ?_
 refine pl_s (w1b.setCells W1.heap.size 0 pc) (zf (cs:=pc.toArray) rfl rfl rfl (by simpa [hpl]using V1.ans) (by simpa using hip) (zh hp1)) ?_
 refine za ?_
 have hlow:Below w.heap.size w1b (w1b.setCells W1.heap.size 0 pc):=ze V1.na pc 0 _ (Below.refl _ w1b)
 have hrs:=run_loadVar_mid (P:=prog) (w1b.setCells W1.heap.size 0 pc) W1.heap.size 0 52 pc _ (World.rangeAt_setCells_same w1b W1.heap.size 0 pc (by rw[hpl];exact V1.ans)) underlying52 rfl hip
 have HF:Hid (∃m:Mg,Ending.returned (.agg pc.toArray)=.returned (.agg m.ms.cells.toArray)∧m.pure=(⟨2,0,0,0,0,false,[],v_a,0,0,0,[],[],zb,Vt.zero,[],⟨#[]⟩,[]⟩:Mp)∧m.ok∧m.At (w1b.setCells W1.heap.size 0 pc)∧m.Bk (fun b=>w.heap.size≤b)∧XR (w1b.setCells W1.heap.size 0 pc) D X s_a∧w.grownBy (w1b.setCells W1.heap.size 0 pc) (some X)):=hide ⟨⟨2,0,0,0,0,false,⟨none,0,[]⟩,v_a,0,0,0,⟨none,0,[]⟩,⟨none,0,[]⟩,zb,Vt.zero,⟨none,0,[]⟩,⟨#[]⟩,⟨none,0,[]⟩⟩,by rw[hpc.out],rfl,hmo,zai RowsAt.none zV RowsAt.none RowsAt.none RowsAt.none,⟨zm,zm,zah,zm,zm,zm⟩,V1.rs.low hlow hXw,zu V1.gr hlow (Nat.le_refl _)⟩
 clear V1 hlow rpc hpc hmo
 go_wp2_with fail
 refine bodyPost_ret (v:=.agg pc.toArray) ?_ rfl ?_
 ·simp[results,results68,Act.put,asAddr,hrs]
 ·exact HF.out
theorem zhR (D X:Nat) (s:Xst) (w:World) (h:XR w D X s):Calls prog 68 #[.pointer (some ⟨X,0,none⟩),.agg (Ms.plain 3 0 0 Vt.zero zb).cells.toArray] w fun en w'=>∃m:Mg,en=.returned (.agg m.ms.cells.toArray)∧m.pure=(xmg3 s).1∧m.ok∧m.At w'∧m.Bk (fun b=>w.heap.size≤b)∧XR w' D X (xmg3 s).2∧w.grownBy w' (some X):=by
 have hXw:=h.lx
 unfold xmg3
 have c_a:=fun w0 h0=>xchangeS D X s w0 h0
 generalize xchS s=p_ at c_a ⊢
 obtain⟨⟨e_a,m_a,n_a,he_a⟩,s_a⟩:=p_
 simp only at c_a ⊢
 obtain⟨zc,hzl,hzr⟩:∃z:List Value,z.length=119∧∀w:World,(zeroValue 52).run prog w=.ok (.agg z.toArray) w:=⟨_,(Ms.plain_ok 0 0 0 Vt.zero_ok zw zG).len,zeroM⟩
 have hql:=(zE 3).len
 have hk0:∀(w':World) b,w'.rangeAt b 0 (Ms.plain 3 0 0 Vt.zero zb).cells→w'.cell? ⟨b,0,none⟩=some (.int .i64 3):=fun w' b h=>((zE 3).at h).k
 obtain⟨qk,hqk⟩:∃q,Hid ((Ms.plain 3 0 0 Vt.zero zb).cells=q):=⟨_,hide rfl⟩
 simp only[hqk.out]at hql hk0 ⊢
 obtain⟨hB1,hr1,hs1⟩:=zq w qk 52
 have ht1:=zi w qk.toArray 52 (n:=119) (by simp[hql])
 go_enter func68,ntmps68
 go_upto_region 0 with fail
 refine pl_b ?_
 refine pl_r 3 (.pointer (some ⟨w.heap.size,0,none⟩)) (w.alloc (.cells qk.toArray 52)) (zaC rfl rfl) ?_
 obtain⟨W1,hW1⟩:∃W,w.alloc (.cells qk.toArray 52)=W:=⟨_,rfl⟩
 rw[hW1]at hB1 hr1 hs1 ht1 ⊢
 clear hW1
 refine pl_r 4 (.pointer (some ⟨W1.heap.size,0,none⟩)) (W1.alloc (.cells zc.toArray 52)) (zo rfl (hzr _)) ?_
 refine za ?_
 obtain⟨hB2,hr2,hs2⟩:=zq W1 zc 52
 have ht2:=zi W1 zc.toArray 52 (n:=119) (by simp[hzl])
 obtain⟨W2,hW2⟩:∃W,W1.alloc (.cells zc.toArray 52)=W:=⟨_,rfl⟩
 rw[hW2]at hB2 hr2 hs2 ht2 ⊢
 clear hW2 hr2
 have hBW:=hB1.trans (hB2.mono hB1.size)
 have hr3:=zd hr1 hB2 hs1
 have hc0:=hk0 _ _ hr3
 rw[←hqk.out]at hr3
 have V0:XW w D X W1.heap.size w.heap.size 119 (Ms.plain 3 0 0 Vt.zero zb).cells s W2:=⟨hr3,zam ht1 hB2 hs1,ht2,zW hBW _,h.below hBW,hs2,by have:=hB2.size;omega,hB1.size,Nat.le_refl _,by omega,hXw⟩
 clear hr3 ht1 ht2 hB1 hB2 hBW hr1 hk0 hqk h hzr hzl hql
 go_upto_region 1 with fail
 refine pl_b ?_
 refine pl_a 5 ?_
 refine pl_v 6 (.int .i64 3) (zg rfl rfl hc0 underlying3 rfl) ?_
 refine za ?_
 clear hc0
 go_upto_region 9 with fail
 refine pl_b ?_
 refine pl_a 25 ?_
 refine pl_c 26 ?_
 refine(c_a W2 V0.rs).mono ?_
 rintro _ w1a ⟨x,rfl,hx,hA,hB,hB2,S1,g1⟩
 refine⟨_,rfl,?_⟩
 simp only[nz]
 refine pl_a 27 ?_
 have U1:=V0.on g1 S1
 have V1:=U1.set 43 [.int .i64 e_a,.int .i64 m_a,.int .i64 n_a,x.val] (zfV e_a m_a n_a x.val Vt.zero_ok U1.row (U1.part 43 4 (by decide)))
 have zz1:=V0.gr.size
 have lb1:=V0.lb
 have la1:=V0.la
 have yy1:=g1.size
 refine pl_s (w1a.setCells w.heap.size 43 [.int .i64 e_a,.int .i64 m_a,.int .i64 n_a,x.val]) (zf (cs:=#[.int .i64 e_a,.int .i64 m_a,.int .i64 n_a,x.val]) rfl rfl rfl (U1.part 43 4 (by decide)) iszCh (by simp[Value.oneCell',Sl.val])) ?_
 refine za ?_
 have hA1:=hA.put (B:=w.heap.size) (o:=43) (vs:=[.int .i64 e_a,.int .i64 m_a,.int .i64 n_a,x.val]) hB hB2 (fun b hb=>by omega)
 clear hA
 clear S1 U1 V0 c_a
 obtain⟨w1b,hw1b⟩:∃W,w1a.setCells w.heap.size 43 [.int .i64 e_a,.int .i64 m_a,.int .i64 n_a,x.val]=W:=⟨_,rfl⟩
 rw[hw1b]at V1 hA1 ⊢
 clear hw1b
 have rpc:=V1.row
 have hmo:Mg.ok ⟨3,0,0,0,0,false,⟨none,0,[]⟩,Vt.zero,e_a,m_a,n_a,x,⟨none,0,[]⟩,zb,Vt.zero,⟨none,0,[]⟩,⟨#[]⟩,⟨none,0,[]⟩⟩:=⟨Vt.zero_ok,Vt.zero_ok,zw,zG⟩
 have hpl:(Mg.ms ⟨3,0,0,0,0,false,⟨none,0,[]⟩,Vt.zero,e_a,m_a,n_a,x,⟨none,0,[]⟩,zb,Vt.zero,⟨none,0,[]⟩,⟨#[]⟩,⟨none,0,[]⟩⟩).cells.length=119:=hmo.ms.len
 have hp1:=hmo.ms.one
 have hip:(prog.info? 52).map (·.size)=some (Mg.ms ⟨3,0,0,0,0,false,⟨none,0,[]⟩,Vt.zero,e_a,m_a,n_a,x,⟨none,0,[]⟩,zb,Vt.zero,⟨none,0,[]⟩,⟨#[]⟩,⟨none,0,[]⟩⟩).cells.length:=by rw[hpl];exact iszM
 have rpc:w1b.rangeAt w.heap.size 0 (Mg.ms ⟨3,0,0,0,0,false,⟨none,0,[]⟩,Vt.zero,e_a,m_a,n_a,x,⟨none,0,[]⟩,zb,Vt.zero,⟨none,0,[]⟩,⟨#[]⟩,⟨none,0,[]⟩⟩).cells:=rpc
 obtain⟨pc,hpc⟩:∃p,Hid ((Mg.ms ⟨3,0,0,0,0,false,⟨none,0,[]⟩,Vt.zero,e_a,m_a,n_a,x,⟨none,0,[]⟩,zb,Vt.zero,⟨none,0,[]⟩,⟨#[]⟩,⟨none,0,[]⟩⟩).cells=p):=⟨_,hide rfl⟩
 simp only[hpc.out]at hpl hip hp1 rpc
 go_upto_region 27 with fail
 refine pl_b ?_
 refine pl_v 74 (.agg pc.toArray) (zp rfl rfl rpc underlying52 rfl hip) ?_
 refine pl_s (w1b.setCells W1.heap.size 0 pc) (zf (cs:=pc.toArray) rfl rfl rfl (by simpa [hpl]using V1.ans) (by simpa using hip) (zh hp1)) ?_
 refine za ?_
 have hlow:Below w.heap.size w1b (w1b.setCells W1.heap.size 0 pc):=ze V1.na pc 0 _ (Below.refl _ w1b)
 have hrs:=run_loadVar_mid (P:=prog) (w1b.setCells W1.heap.size 0 pc) W1.heap.size 0 52 pc _ (World.rangeAt_setCells_same w1b W1.heap.size 0 pc (by rw[hpl];exact V1.ans)) underlying52 rfl hip
 have HF:Hid (∃m:Mg,Ending.returned (.agg pc.toArray)=.returned (.agg m.ms.cells.toArray)∧m.pure=(⟨3,0,0,0,0,false,[],Vt.zero,e_a,m_a,n_a,he_a,[],zb,Vt.zero,[],⟨#[]⟩,[]⟩:Mp)∧m.ok∧m.At (w1b.setCells W1.heap.size 0 pc)∧m.Bk (fun b=>w.heap.size≤b)∧XR (w1b.setCells W1.heap.size 0 pc) D X s_a∧w.grownBy (w1b.setCells W1.heap.size 0 pc) (some X)):=hide ⟨⟨3,0,0,0,0,false,⟨none,0,[]⟩,Vt.zero,e_a,m_a,n_a,x,⟨none,0,[]⟩,zb,Vt.zero,⟨none,0,[]⟩,⟨#[]⟩,⟨none,0,[]⟩⟩,by rw[hpc.out],by rw[←hx];rfl,hmo,zai RowsAt.none (hA1.put hB hB2 (fun b hb=>by omega)) RowsAt.none RowsAt.none RowsAt.none,⟨zm,hB.mono (fun b hb=>by omega),fun y hy=>(hB2 y hy).mono (fun b hb=>by omega),zm,zm,zm⟩,V1.rs.low hlow hXw,zu V1.gr hlow (Nat.le_refl _)⟩
 clear V1 hlow rpc hpc hmo hx hB hB2 hA1
 go_wp2_with fail
 refine bodyPost_ret (v:=.agg pc.toArray) ?_ rfl ?_
 ·simp[results,results68,Act.put,asAddr,hrs]
 ·exact HF.out
theorem zhQ (D X:Nat) (s:Xst) (w:World) (h:XR w D X s):Calls prog 68 #[.pointer (some ⟨X,0,none⟩),.agg (Ms.plain 4 0 0 Vt.zero zb).cells.toArray] w fun en w'=>∃m:Mg,en=.returned (.agg m.ms.cells.toArray)∧m.pure=(xmg4 s).1∧m.ok∧m.At w'∧m.Bk (fun b=>w.heap.size≤b)∧XR w' D X (xmg4 s).2∧w.grownBy w' (some X):=by
 have hXw:=h.lx
 unfold xmg4
 have c_a:=fun w0 h0=>xnumS D X 1048576 s w0 h0
 generalize xnuS 1048576 s=p_ at c_a ⊢
 obtain⟨v_a,s_a⟩:=p_
 simp only at c_a ⊢
 have c_b:=fun w0 h0=>xnumS D X 64 s_a w0 h0
 generalize xnuS 64 s_a=p_ at c_b ⊢
 obtain⟨v_b,s_b⟩:=p_
 simp only at c_b ⊢
 have c_c:=fun w0 h0=>xnumS D X 1099511627776 s_b w0 h0
 generalize xnuS 1099511627776 s_b=p_ at c_c ⊢
 obtain⟨v_c,s_c⟩:=p_
 simp only at c_c ⊢
 have c_d:=fun w0 h0=>xlistE D X s_c w0 h0
 generalize xlsS 64 xenS s_c=p_ at c_d ⊢
 obtain⟨v_d,s_d⟩:=p_
 simp only at c_d ⊢
 obtain⟨zc,hzl,hzr⟩:∃z:List Value,z.length=119∧∀w:World,(zeroValue 52).run prog w=.ok (.agg z.toArray) w:=⟨_,(Ms.plain_ok 0 0 0 Vt.zero_ok zw zG).len,zeroM⟩
 have hql:=(zE 4).len
 have hk0:∀(w':World) b,w'.rangeAt b 0 (Ms.plain 4 0 0 Vt.zero zb).cells→w'.cell? ⟨b,0,none⟩=some (.int .i64 4):=fun w' b h=>((zE 4).at h).k
 obtain⟨qk,hqk⟩:∃q,Hid ((Ms.plain 4 0 0 Vt.zero zb).cells=q):=⟨_,hide rfl⟩
 simp only[hqk.out]at hql hk0 ⊢
 obtain⟨hB1,hr1,hs1⟩:=zq w qk 52
 have ht1:=zi w qk.toArray 52 (n:=119) (by simp[hql])
 go_enter func68,ntmps68
 go_upto_region 0 with fail
 refine pl_b ?_
 refine pl_r 3 (.pointer (some ⟨w.heap.size,0,none⟩)) (w.alloc (.cells qk.toArray 52)) (zaC rfl rfl) ?_
 obtain⟨W1,hW1⟩:∃W,w.alloc (.cells qk.toArray 52)=W:=⟨_,rfl⟩
 rw[hW1]at hB1 hr1 hs1 ht1 ⊢
 clear hW1
 refine pl_r 4 (.pointer (some ⟨W1.heap.size,0,none⟩)) (W1.alloc (.cells zc.toArray 52)) (zo rfl (hzr _)) ?_
 refine za ?_
 obtain⟨hB2,hr2,hs2⟩:=zq W1 zc 52
 have ht2:=zi W1 zc.toArray 52 (n:=119) (by simp[hzl])
 obtain⟨W2,hW2⟩:∃W,W1.alloc (.cells zc.toArray 52)=W:=⟨_,rfl⟩
 rw[hW2]at hB2 hr2 hs2 ht2 ⊢
 clear hW2 hr2
 have hBW:=hB1.trans (hB2.mono hB1.size)
 have hr3:=zd hr1 hB2 hs1
 have hc0:=hk0 _ _ hr3
 rw[←hqk.out]at hr3
 have V0:XW w D X W1.heap.size w.heap.size 119 (Ms.plain 4 0 0 Vt.zero zb).cells s W2:=⟨hr3,zam ht1 hB2 hs1,ht2,zW hBW _,h.below hBW,hs2,by have:=hB2.size;omega,hB1.size,Nat.le_refl _,by omega,hXw⟩
 clear hr3 ht1 ht2 hB1 hB2 hBW hr1 hk0 hqk h hzr hzl hql
 go_upto_region 1 with fail
 refine pl_b ?_
 refine pl_a 5 ?_
 refine pl_v 6 (.int .i64 4) (zg rfl rfl hc0 underlying3 rfl) ?_
 refine za ?_
 clear hc0
 go_upto_region 11 with fail
 refine pl_b ?_
 refine pl_a 30 ?_
 refine pl_c 31 ?_
 refine(c_a W2 V0.rs).mono ?_
 rintro _ w1a ⟨rfl,S1,g1⟩
 refine⟨_,rfl,?_⟩
 simp only[nz]
 refine pl_a 32 ?_
 have U1:=V0.on g1 S1
 have V1:=U1.set 1 [.int .i64 v_a] (za9 v_a U1.row (U1.part 1 1 (by decide)))
 have zz1:=V0.gr.size
 have lb1:=V0.lb
 have la1:=V0.la
 have yy1:=g1.size
 refine pl_s (w1a.setCells w.heap.size 1 [.int .i64 v_a]) (zD (n:=119) rfl rfl rfl U1.box (by decide) iszI rfl rfl) ?_
 refine za ?_
 clear S1 U1 V0 c_a
 obtain⟨w1b,hw1b⟩:∃W,w1a.setCells w.heap.size 1 [.int .i64 v_a]=W:=⟨_,rfl⟩
 rw[hw1b]at V1 ⊢
 clear hw1b
 go_upto_region 12 with fail
 refine pl_b ?_
 refine pl_a 33 ?_
 refine pl_c 34 ?_
 refine(c_b w1b V1.rs).mono ?_
 rintro _ w2a ⟨rfl,S2,g2⟩
 refine⟨_,rfl,?_⟩
 simp only[nz]
 refine pl_a 35 ?_
 have U2:=V1.on g2 S2
 have V2:=U2.set 2 [.int .i64 v_b] (zfS v_b U2.row (U2.part 2 1 (by decide)))
 have zz2:=V1.gr.size
 have lb2:=V1.lb
 have la2:=V1.la
 have yy2:=g2.size
 refine pl_s (w2a.setCells w.heap.size 2 [.int .i64 v_b]) (zD (n:=119) rfl rfl rfl U2.box (by decide) iszI rfl rfl) ?_
 refine za ?_
 clear S2 U2 V1 c_b
 obtain⟨w2b,hw2b⟩:∃W,w2a.setCells w.heap.size 2 [.int .i64 v_b]=W:=⟨_,rfl⟩
 rw[hw2b]at V2 ⊢
 clear hw2b
 go_upto_region 13 with fail
 refine pl_b ?_
 refine pl_a 36 ?_
 refine pl_c 37 ?_
 refine(c_c w2b V2.rs).mono ?_
 rintro _ w3a ⟨rfl,S3,g3⟩
 refine⟨_,rfl,?_⟩
 simp only[nz]
 refine pl_a 38 ?_
 have U3:=V2.on g3 S3
 have V3:=U3.set 3 [.int .i64 v_c] (zfO v_c U3.row (U3.part 3 1 (by decide)))
 have zz3:=V2.gr.size
 have lb3:=V2.lb
 have la3:=V2.la
 have yy3:=g3.size
 refine pl_s (w3a.setCells w.heap.size 3 [.int .i64 v_c]) (zD (n:=119) rfl rfl rfl U3.box (by decide) iszI rfl rfl) ?_
 refine za ?_
 clear S3 U3 V2 c_c
 obtain⟨w3b,hw3b⟩:∃W,w3a.setCells w.heap.size 3 [.int .i64 v_c]=W:=⟨_,rfl⟩
 rw[hw3b]at V3 ⊢
 clear hw3b
 go_upto_region 14 with fail
 refine pl_b ?_
 refine pl_a 39 ?_
 refine pl_c 40 ?_
 refine(c_d w3b V3.rs).mono ?_
 rintro _ w4a ⟨x,rfl,hx,hA,hB,S4,g4⟩
 refine⟨_,rfl,?_⟩
 simp only[nz]
 refine pl_a 41 ?_
 have U4:=V3.on g4 S4
 have V4:=U4.set 47 [x.val] (zfR x.val Vt.zero_ok U4.row (U4.part 47 1 (by decide)))
 have zz4:=V3.gr.size
 have lb4:=V3.lb
 have la4:=V3.la
 have yy4:=g4.size
 refine pl_s (w4a.setCells w.heap.size 47 [x.val]) (zD (n:=119) rfl rfl rfl U4.box (by decide) iszEvs rfl rfl) ?_
 refine za ?_
 have hA4:=hA.put (B:=w.heap.size) (o:=47) (vs:=[x.val]) hB (fun b hb=>by omega)
 clear hA
 clear S4 U4 V3 c_d
 obtain⟨w4b,hw4b⟩:∃W,w4a.setCells w.heap.size 47 [x.val]=W:=⟨_,rfl⟩
 rw[hw4b]at V4 hA4 ⊢
 clear hw4b
 have rpc:=V4.row
 have hmo:Mg.ok ⟨4,v_a,v_b,v_c,0,false,⟨none,0,[]⟩,Vt.zero,0,0,0,⟨none,0,[]⟩,x,zb,Vt.zero,⟨none,0,[]⟩,⟨#[]⟩,⟨none,0,[]⟩⟩:=⟨Vt.zero_ok,Vt.zero_ok,zw,zG⟩
 have hpl:(Mg.ms ⟨4,v_a,v_b,v_c,0,false,⟨none,0,[]⟩,Vt.zero,0,0,0,⟨none,0,[]⟩,x,zb,Vt.zero,⟨none,0,[]⟩,⟨#[]⟩,⟨none,0,[]⟩⟩).cells.length=119:=hmo.ms.len
 have hp1:=hmo.ms.one
 have hip:(prog.info? 52).map (·.size)=some (Mg.ms ⟨4,v_a,v_b,v_c,0,false,⟨none,0,[]⟩,Vt.zero,0,0,0,⟨none,0,[]⟩,x,zb,Vt.zero,⟨none,0,[]⟩,⟨#[]⟩,⟨none,0,[]⟩⟩).cells.length:=by rw[hpl];exact iszM
 have rpc:w4b.rangeAt w.heap.size 0 (Mg.ms ⟨4,v_a,v_b,v_c,0,false,⟨none,0,[]⟩,Vt.zero,0,0,0,⟨none,0,[]⟩,x,zb,Vt.zero,⟨none,0,[]⟩,⟨#[]⟩,⟨none,0,[]⟩⟩).cells:=rpc
 obtain⟨pc,hpc⟩:∃p,Hid ((Mg.ms ⟨4,v_a,v_b,v_c,0,false,⟨none,0,[]⟩,Vt.zero,0,0,0,⟨none,0,[]⟩,x,zb,Vt.zero,⟨none,0,[]⟩,⟨#[]⟩,⟨none,0,[]⟩⟩).cells=p):=⟨_,hide rfl⟩
 simp only[hpc.out]at hpl hip hp1 rpc
 go_upto_region 27 with fail
 refine pl_b ?_
 refine pl_v 74 (.agg pc.toArray) (zp rfl rfl rpc underlying52 rfl hip) ?_
 refine pl_s (w4b.setCells W1.heap.size 0 pc) (zf (cs:=pc.toArray) rfl rfl rfl (by simpa [hpl]using V4.ans) (by simpa using hip) (zh hp1)) ?_
 refine za ?_
 have hlow:Below w.heap.size w4b (w4b.setCells W1.heap.size 0 pc):=ze V4.na pc 0 _ (Below.refl _ w4b)
 have hrs:=run_loadVar_mid (P:=prog) (w4b.setCells W1.heap.size 0 pc) W1.heap.size 0 52 pc _ (World.rangeAt_setCells_same w4b W1.heap.size 0 pc (by rw[hpl];exact V4.ans)) underlying52 rfl hip
 have HF:Hid (∃m:Mg,Ending.returned (.agg pc.toArray)=.returned (.agg m.ms.cells.toArray)∧m.pure=(⟨4,v_a,v_b,v_c,0,false,[],Vt.zero,0,0,0,[],v_d,zb,Vt.zero,[],⟨#[]⟩,[]⟩:Mp)∧m.ok∧m.At (w4b.setCells W1.heap.size 0 pc)∧m.Bk (fun b=>w.heap.size≤b)∧XR (w4b.setCells W1.heap.size 0 pc) D X s_d∧w.grownBy (w4b.setCells W1.heap.size 0 pc) (some X)):=hide ⟨⟨4,v_a,v_b,v_c,0,false,⟨none,0,[]⟩,Vt.zero,0,0,0,⟨none,0,[]⟩,x,zb,Vt.zero,⟨none,0,[]⟩,⟨#[]⟩,⟨none,0,[]⟩⟩,by rw[hpc.out],by rw[←hx];rfl,hmo,zai RowsAt.none zV (hA4.put hB (fun b hb=>by omega)) RowsAt.none RowsAt.none,⟨zm,zm,zah,hB.mono (fun b hb=>by omega),zm,zm⟩,V4.rs.low hlow hXw,zu V4.gr hlow (Nat.le_refl _)⟩
 clear V4 hlow rpc hpc hmo hx hB hA4
 go_wp2_with fail
 refine bodyPost_ret (v:=.agg pc.toArray) ?_ rfl ?_
 ·simp[results,results68,Act.put,asAddr,hrs]
 ·exact HF.out
theorem zhP (D X:Nat) (s:Xst) (w:World) (h:XR w D X s):Calls prog 68 #[.pointer (some ⟨X,0,none⟩),.agg (Ms.plain 5 0 0 Vt.zero zb).cells.toArray] w fun en w'=>∃m:Mg,en=.returned (.agg m.ms.cells.toArray)∧m.pure=(xmg5 s).1∧m.ok∧m.At w'∧m.Bk (fun b=>w.heap.size≤b)∧XR w' D X (xmg5 s).2∧w.grownBy w' (some X):=by
 have hXw:=h.lx
 unfold xmg5
 have c_a:=fun w0 h0=>xnumS D X 1048576 s w0 h0
 generalize xnuS 1048576 s=p_ at c_a ⊢
 obtain⟨v_a,s_a⟩:=p_
 simp only at c_a ⊢
 have c_b:=fun w0 h0=>xdigS D X s_a w0 h0
 have ok_b:=fun hb=>zh2 s_a hb
 generalize xdgS s_a=p_ at c_b ok_b ⊢
 obtain⟨v_b,s_b⟩:=p_
 simp only at c_b ok_b ⊢
 obtain⟨zc,hzl,hzr⟩:∃z:List Value,z.length=119∧∀w:World,(zeroValue 52).run prog w=.ok (.agg z.toArray) w:=⟨_,(Ms.plain_ok 0 0 0 Vt.zero_ok zw zG).len,zeroM⟩
 have hql:=(zE 5).len
 have hk0:∀(w':World) b,w'.rangeAt b 0 (Ms.plain 5 0 0 Vt.zero zb).cells→w'.cell? ⟨b,0,none⟩=some (.int .i64 5):=fun w' b h=>((zE 5).at h).k
 obtain⟨qk,hqk⟩:∃q,Hid ((Ms.plain 5 0 0 Vt.zero zb).cells=q):=⟨_,hide rfl⟩
 simp only[hqk.out]at hql hk0 ⊢
 obtain⟨hB1,hr1,hs1⟩:=zq w qk 52
 have ht1:=zi w qk.toArray 52 (n:=119) (by simp[hql])
 go_enter func68,ntmps68
 go_upto_region 0 with fail
 refine pl_b ?_
 refine pl_r 3 (.pointer (some ⟨w.heap.size,0,none⟩)) (w.alloc (.cells qk.toArray 52)) (zaC rfl rfl) ?_
 obtain⟨W1,hW1⟩:∃W,w.alloc (.cells qk.toArray 52)=W:=⟨_,rfl⟩
 rw[hW1]at hB1 hr1 hs1 ht1 ⊢
 clear hW1
 refine pl_r 4 (.pointer (some ⟨W1.heap.size,0,none⟩)) (W1.alloc (.cells zc.toArray 52)) (zo rfl (hzr _)) ?_
 refine za ?_
 obtain⟨hB2,hr2,hs2⟩:=zq W1 zc 52
 have ht2:=zi W1 zc.toArray 52 (n:=119) (by simp[hzl])
 obtain⟨W2,hW2⟩:∃W,W1.alloc (.cells zc.toArray 52)=W:=⟨_,rfl⟩
 rw[hW2]at hB2 hr2 hs2 ht2 ⊢
 clear hW2 hr2
 have hBW:=hB1.trans (hB2.mono hB1.size)
 have hr3:=zd hr1 hB2 hs1
 have hc0:=hk0 _ _ hr3
 rw[←hqk.out]at hr3
 have V0:XW w D X W1.heap.size w.heap.size 119 (Ms.plain 5 0 0 Vt.zero zb).cells s W2:=⟨hr3,zam ht1 hB2 hs1,ht2,zW hBW _,h.below hBW,hs2,by have:=hB2.size;omega,hB1.size,Nat.le_refl _,by omega,hXw⟩
 clear hr3 ht1 ht2 hB1 hB2 hBW hr1 hk0 hqk h hzr hzl hql
 go_upto_region 1 with fail
 refine pl_b ?_
 refine pl_a 5 ?_
 refine pl_v 6 (.int .i64 5) (zg rfl rfl hc0 underlying3 rfl) ?_
 refine za ?_
 clear hc0
 go_upto_region 16 with fail
 refine pl_b ?_
 refine pl_a 44 ?_
 refine pl_c 45 ?_
 refine(c_a W2 V0.rs).mono ?_
 rintro _ w1a ⟨rfl,S1,g1⟩
 refine⟨_,rfl,?_⟩
 simp only[nz]
 refine pl_a 46 ?_
 have U1:=V0.on g1 S1
 have V1:=U1.set 1 [.int .i64 v_a] (za9 v_a U1.row (U1.part 1 1 (by decide)))
 have zz1:=V0.gr.size
 have lb1:=V0.lb
 have la1:=V0.la
 have yy1:=g1.size
 refine pl_s (w1a.setCells w.heap.size 1 [.int .i64 v_a]) (zD (n:=119) rfl rfl rfl U1.box (by decide) iszI rfl rfl) ?_
 refine za ?_
 clear S1 U1 V0 c_a
 obtain⟨w1b,hw1b⟩:∃W,w1a.setCells w.heap.size 1 [.int .i64 v_a]=W:=⟨_,rfl⟩
 rw[hw1b]at V1 ⊢
 clear hw1b
 go_upto_region 17 with fail
 refine pl_b ?_
 refine pl_a 47 ?_
 refine pl_c 48 ?_
 refine(c_b w1b V1.rs).mono ?_
 rintro _ w2a ⟨rfl,S2,g2⟩
 refine⟨_,rfl,?_⟩
 simp only[nz]
 refine pl_a 49 ?_
 have U2:=V1.on g2 S2
 have hd:=ok_b V1.rs.st.bs
 have hdl:(v8 v_b).length=32:=by rw[v8_length];exact hd.1
 have V2:=U2.set 48 (v8 v_b) (zfT v_b hd.1 zw Vt.zero_ok U2.row (U2.part 48 32 (by decide)))
 have zz2:=V1.gr.size
 have lb2:=V1.lb
 have la2:=V1.la
 have yy2:=g2.size
 refine pl_s (w2a.setCells w.heap.size 48 (v8 v_b)) (zf (cs:=(v8 v_b).toArray) rfl rfl rfl (by simpa [hdl]using U2.part 48 32 (by decide)) (by simpa [hdl]using iszD) (zh (zy v_b))) ?_
 refine za ?_
 clear S2 U2 V1 c_b
 obtain⟨w2b,hw2b⟩:∃W,w2a.setCells w.heap.size 48 (v8 v_b)=W:=⟨_,rfl⟩
 rw[hw2b]at V2 ⊢
 clear hw2b
 have rpc:=V2.row
 have hmo:Mg.ok ⟨5,v_a,0,0,0,false,⟨none,0,[]⟩,Vt.zero,0,0,0,⟨none,0,[]⟩,⟨none,0,[]⟩,v_b,Vt.zero,⟨none,0,[]⟩,⟨#[]⟩,⟨none,0,[]⟩⟩:=⟨Vt.zero_ok,Vt.zero_ok,hd.1,hd.2⟩
 have hpl:(Mg.ms ⟨5,v_a,0,0,0,false,⟨none,0,[]⟩,Vt.zero,0,0,0,⟨none,0,[]⟩,⟨none,0,[]⟩,v_b,Vt.zero,⟨none,0,[]⟩,⟨#[]⟩,⟨none,0,[]⟩⟩).cells.length=119:=hmo.ms.len
 have hp1:=hmo.ms.one
 have hip:(prog.info? 52).map (·.size)=some (Mg.ms ⟨5,v_a,0,0,0,false,⟨none,0,[]⟩,Vt.zero,0,0,0,⟨none,0,[]⟩,⟨none,0,[]⟩,v_b,Vt.zero,⟨none,0,[]⟩,⟨#[]⟩,⟨none,0,[]⟩⟩).cells.length:=by rw[hpl];exact iszM
 have rpc:w2b.rangeAt w.heap.size 0 (Mg.ms ⟨5,v_a,0,0,0,false,⟨none,0,[]⟩,Vt.zero,0,0,0,⟨none,0,[]⟩,⟨none,0,[]⟩,v_b,Vt.zero,⟨none,0,[]⟩,⟨#[]⟩,⟨none,0,[]⟩⟩).cells:=rpc
 obtain⟨pc,hpc⟩:∃p,Hid ((Mg.ms ⟨5,v_a,0,0,0,false,⟨none,0,[]⟩,Vt.zero,0,0,0,⟨none,0,[]⟩,⟨none,0,[]⟩,v_b,Vt.zero,⟨none,0,[]⟩,⟨#[]⟩,⟨none,0,[]⟩⟩).cells=p):=⟨_,hide rfl⟩
 simp only[hpc.out]at hpl hip hp1 rpc
 go_upto_region 27 with fail
 refine pl_b ?_
 refine pl_v 74 (.agg pc.toArray) (zp rfl rfl rpc underlying52 rfl hip) ?_
 refine pl_s (w2b.setCells W1.heap.size 0 pc) (zf (cs:=pc.toArray) rfl rfl rfl (by simpa [hpl]using V2.ans) (by simpa using hip) (zh hp1)) ?_
 refine za ?_
 have hlow:Below w.heap.size w2b (w2b.setCells W1.heap.size 0 pc):=ze V2.na pc 0 _ (Below.refl _ w2b)
 have hrs:=run_loadVar_mid (P:=prog) (w2b.setCells W1.heap.size 0 pc) W1.heap.size 0 52 pc _ (World.rangeAt_setCells_same w2b W1.heap.size 0 pc (by rw[hpl];exact V2.ans)) underlying52 rfl hip
 have HF:Hid (∃m:Mg,Ending.returned (.agg pc.toArray)=.returned (.agg m.ms.cells.toArray)∧m.pure=(⟨5,v_a,0,0,0,false,[],Vt.zero,0,0,0,[],[],v_b,Vt.zero,[],⟨#[]⟩,[]⟩:Mp)∧m.ok∧m.At (w2b.setCells W1.heap.size 0 pc)∧m.Bk (fun b=>w.heap.size≤b)∧XR (w2b.setCells W1.heap.size 0 pc) D X s_b∧w.grownBy (w2b.setCells W1.heap.size 0 pc) (some X)):=hide ⟨⟨5,v_a,0,0,0,false,⟨none,0,[]⟩,Vt.zero,0,0,0,⟨none,0,[]⟩,⟨none,0,[]⟩,v_b,Vt.zero,⟨none,0,[]⟩,⟨#[]⟩,⟨none,0,[]⟩⟩,by rw[hpc.out],rfl,hmo,zai RowsAt.none zV RowsAt.none RowsAt.none RowsAt.none,⟨zm,zm,zah,zm,zm,zm⟩,V2.rs.low hlow hXw,zu V2.gr hlow (Nat.le_refl _)⟩
 clear V2 hlow rpc hpc hmo
 go_wp2_with fail
 refine bodyPost_ret (v:=.agg pc.toArray) ?_ rfl ?_
 ·simp[results,results68,Act.put,asAddr,hrs]
 ·exact HF.out
theorem zhO (D X:Nat) (s:Xst) (w:World) (h:XR w D X s):Calls prog 68 #[.pointer (some ⟨X,0,none⟩),.agg (Ms.plain 6 0 0 Vt.zero zb).cells.toArray] w fun en w'=>∃m:Mg,en=.returned (.agg m.ms.cells.toArray)∧m.pure=(xmg6 s).1∧m.ok∧m.At w'∧m.Bk (fun b=>w.heap.size≤b)∧XR w' D X (xmg6 s).2∧w.grownBy w' (some X):=by
 have hXw:=h.lx
 unfold xmg6
 have c_a:=fun w0 h0=>xnumS D X 1048576 s w0 h0
 generalize xnuS 1048576 s=p_ at c_a ⊢
 obtain⟨v_a,s_a⟩:=p_
 simp only at c_a ⊢
 have c_b:=fun w0 h0=>xnumS D X 1099511627776 s_a w0 h0
 generalize xnuS 1099511627776 s_a=p_ at c_b ⊢
 obtain⟨v_b,s_b⟩:=p_
 simp only at c_b ⊢
 obtain⟨zc,hzl,hzr⟩:∃z:List Value,z.length=119∧∀w:World,(zeroValue 52).run prog w=.ok (.agg z.toArray) w:=⟨_,(Ms.plain_ok 0 0 0 Vt.zero_ok zw zG).len,zeroM⟩
 have hql:=(zE 6).len
 have hk0:∀(w':World) b,w'.rangeAt b 0 (Ms.plain 6 0 0 Vt.zero zb).cells→w'.cell? ⟨b,0,none⟩=some (.int .i64 6):=fun w' b h=>((zE 6).at h).k
 obtain⟨qk,hqk⟩:∃q,Hid ((Ms.plain 6 0 0 Vt.zero zb).cells=q):=⟨_,hide rfl⟩
 simp only[hqk.out]at hql hk0 ⊢
 obtain⟨hB1,hr1,hs1⟩:=zq w qk 52
 have ht1:=zi w qk.toArray 52 (n:=119) (by simp[hql])
 go_enter func68,ntmps68
 go_upto_region 0 with fail
 refine pl_b ?_
 refine pl_r 3 (.pointer (some ⟨w.heap.size,0,none⟩)) (w.alloc (.cells qk.toArray 52)) (zaC rfl rfl) ?_
 obtain⟨W1,hW1⟩:∃W,w.alloc (.cells qk.toArray 52)=W:=⟨_,rfl⟩
 rw[hW1]at hB1 hr1 hs1 ht1 ⊢
 clear hW1
 refine pl_r 4 (.pointer (some ⟨W1.heap.size,0,none⟩)) (W1.alloc (.cells zc.toArray 52)) (zo rfl (hzr _)) ?_
 refine za ?_
 obtain⟨hB2,hr2,hs2⟩:=zq W1 zc 52
 have ht2:=zi W1 zc.toArray 52 (n:=119) (by simp[hzl])
 obtain⟨W2,hW2⟩:∃W,W1.alloc (.cells zc.toArray 52)=W:=⟨_,rfl⟩
 rw[hW2]at hB2 hr2 hs2 ht2 ⊢
 clear hW2 hr2
 have hBW:=hB1.trans (hB2.mono hB1.size)
 have hr3:=zd hr1 hB2 hs1
 have hc0:=hk0 _ _ hr3
 rw[←hqk.out]at hr3
 have V0:XW w D X W1.heap.size w.heap.size 119 (Ms.plain 6 0 0 Vt.zero zb).cells s W2:=⟨hr3,zam ht1 hB2 hs1,ht2,zW hBW _,h.below hBW,hs2,by have:=hB2.size;omega,hB1.size,Nat.le_refl _,by omega,hXw⟩
 clear hr3 ht1 ht2 hB1 hB2 hBW hr1 hk0 hqk h hzr hzl hql
 go_upto_region 1 with fail
 refine pl_b ?_
 refine pl_a 5 ?_
 refine pl_v 6 (.int .i64 6) (zg rfl rfl hc0 underlying3 rfl) ?_
 refine za ?_
 clear hc0
 go_upto_region 19 with fail
 refine pl_b ?_
 refine pl_a 52 ?_
 refine pl_c 53 ?_
 refine(c_a W2 V0.rs).mono ?_
 rintro _ w1a ⟨rfl,S1,g1⟩
 refine⟨_,rfl,?_⟩
 simp only[nz]
 refine pl_a 54 ?_
 have U1:=V0.on g1 S1
 have V1:=U1.set 1 [.int .i64 v_a] (za9 v_a U1.row (U1.part 1 1 (by decide)))
 have zz1:=V0.gr.size
 have lb1:=V0.lb
 have la1:=V0.la
 have yy1:=g1.size
 refine pl_s (w1a.setCells w.heap.size 1 [.int .i64 v_a]) (zD (n:=119) rfl rfl rfl U1.box (by decide) iszI rfl rfl) ?_
 refine za ?_
 clear S1 U1 V0 c_a
 obtain⟨w1b,hw1b⟩:∃W,w1a.setCells w.heap.size 1 [.int .i64 v_a]=W:=⟨_,rfl⟩
 rw[hw1b]at V1 ⊢
 clear hw1b
 go_upto_region 20 with fail
 refine pl_b ?_
 refine pl_a 55 ?_
 refine pl_c 56 ?_
 refine(c_b w1b V1.rs).mono ?_
 rintro _ w2a ⟨rfl,S2,g2⟩
 refine⟨_,rfl,?_⟩
 simp only[nz]
 refine pl_a 57 ?_
 have U2:=V1.on g2 S2
 have V2:=U2.set 4 [.int .i64 v_b] (zcb v_b U2.row (U2.part 4 1 (by decide)))
 have zz2:=V1.gr.size
 have lb2:=V1.lb
 have la2:=V1.la
 have yy2:=g2.size
 refine pl_s (w2a.setCells w.heap.size 4 [.int .i64 v_b]) (zD (n:=119) rfl rfl rfl U2.box (by decide) iszI rfl rfl) ?_
 refine za ?_
 clear S2 U2 V1 c_b
 obtain⟨w2b,hw2b⟩:∃W,w2a.setCells w.heap.size 4 [.int .i64 v_b]=W:=⟨_,rfl⟩
 rw[hw2b]at V2 ⊢
 clear hw2b
 have rpc:=V2.row
 have hmo:Mg.ok ⟨6,v_a,0,0,v_b,false,⟨none,0,[]⟩,Vt.zero,0,0,0,⟨none,0,[]⟩,⟨none,0,[]⟩,zb,Vt.zero,⟨none,0,[]⟩,⟨#[]⟩,⟨none,0,[]⟩⟩:=⟨Vt.zero_ok,Vt.zero_ok,zw,zG⟩
 have hpl:(Mg.ms ⟨6,v_a,0,0,v_b,false,⟨none,0,[]⟩,Vt.zero,0,0,0,⟨none,0,[]⟩,⟨none,0,[]⟩,zb,Vt.zero,⟨none,0,[]⟩,⟨#[]⟩,⟨none,0,[]⟩⟩).cells.length=119:=hmo.ms.len
 have hp1:=hmo.ms.one
 have hip:(prog.info? 52).map (·.size)=some (Mg.ms ⟨6,v_a,0,0,v_b,false,⟨none,0,[]⟩,Vt.zero,0,0,0,⟨none,0,[]⟩,⟨none,0,[]⟩,zb,Vt.zero,⟨none,0,[]⟩,⟨#[]⟩,⟨none,0,[]⟩⟩).cells.length:=by rw[hpl];exact iszM
 have rpc:w2b.rangeAt w.heap.size 0 (Mg.ms ⟨6,v_a,0,0,v_b,false,⟨none,0,[]⟩,Vt.zero,0,0,0,⟨none,0,[]⟩,⟨none,0,[]⟩,zb,Vt.zero,⟨none,0,[]⟩,⟨#[]⟩,⟨none,0,[]⟩⟩).cells:=rpc
 obtain⟨pc,hpc⟩:∃p,Hid ((Mg.ms ⟨6,v_a,0,0,v_b,false,⟨none,0,[]⟩,Vt.zero,0,0,0,⟨none,0,[]⟩,⟨none,0,[]⟩,zb,Vt.zero,⟨none,0,[]⟩,⟨#[]⟩,⟨none,0,[]⟩⟩).cells=p):=⟨_,hide rfl⟩
 simp only[hpc.out]at hpl hip hp1 rpc
 go_upto_region 27 with fail
 refine pl_b ?_
 refine pl_v 74 (.agg pc.toArray) (zp rfl rfl rpc underlying52 rfl hip) ?_
 refine pl_s (w2b.setCells W1.heap.size 0 pc) (zf (cs:=pc.toArray) rfl rfl rfl (by simpa [hpl]using V2.ans) (by simpa using hip) (zh hp1)) ?_
 refine za ?_
 have hlow:Below w.heap.size w2b (w2b.setCells W1.heap.size 0 pc):=ze V2.na pc 0 _ (Below.refl _ w2b)
 have hrs:=run_loadVar_mid (P:=prog) (w2b.setCells W1.heap.size 0 pc) W1.heap.size 0 52 pc _ (World.rangeAt_setCells_same w2b W1.heap.size 0 pc (by rw[hpl];exact V2.ans)) underlying52 rfl hip
 have HF:Hid (∃m:Mg,Ending.returned (.agg pc.toArray)=.returned (.agg m.ms.cells.toArray)∧m.pure=(⟨6,v_a,0,0,v_b,false,[],Vt.zero,0,0,0,[],[],zb,Vt.zero,[],⟨#[]⟩,[]⟩:Mp)∧m.ok∧m.At (w2b.setCells W1.heap.size 0 pc)∧m.Bk (fun b=>w.heap.size≤b)∧XR (w2b.setCells W1.heap.size 0 pc) D X s_b∧w.grownBy (w2b.setCells W1.heap.size 0 pc) (some X)):=hide ⟨⟨6,v_a,0,0,v_b,false,⟨none,0,[]⟩,Vt.zero,0,0,0,⟨none,0,[]⟩,⟨none,0,[]⟩,zb,Vt.zero,⟨none,0,[]⟩,⟨#[]⟩,⟨none,0,[]⟩⟩,by rw[hpc.out],rfl,hmo,zai RowsAt.none zV RowsAt.none RowsAt.none RowsAt.none,⟨zm,zm,zah,zm,zm,zm⟩,V2.rs.low hlow hXw,zu V2.gr hlow (Nat.le_refl _)⟩
 clear V2 hlow rpc hpc hmo
 go_wp2_with fail
 refine bodyPost_ret (v:=.agg pc.toArray) ?_ rfl ?_
 ·simp[results,results68,Act.put,asAddr,hrs]
 ·exact HF.out
end Go.Proofs.YtcbpbkefggekmaaGreatDoor
