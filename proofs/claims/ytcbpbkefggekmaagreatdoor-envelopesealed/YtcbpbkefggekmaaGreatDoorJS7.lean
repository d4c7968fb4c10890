/- message's writer: messages of all kinds; the document's bytes: tags, signs, certs; the document's bytes of a message; the document's bytes of changes and of new -/
import Derived.Test.YtcbpbkefggekmaaGreatDoorJS0
import Derived.Test.YtcbpbkefggekmaaGreatDoorJS6
import Derived.Test.YtcbpbkefggekmaaGreatDoorJS4
set_option maxHeartbeats 4000000
set_option maxRecDepth 100000
open Go.Proofs.Tryz
namespace Go.Proofs.YtcbpbkefggekmaaGreatDoor
open Go.RowKit
open Sha Tal
set_option linter.unusedVariables false
set_option linter.unusedSimpArgs false
def Mg.body (m:Mg):List Int:=
 if m.k=1 then[m.e,m.s].flatMap putL++batL m.q (m.rs.xs.map BRq.of)
 else if m.k=2 then vtL m.vt
 else if m.k=3 then[m.ce,m.cl,m.cv].flatMap putL++hdsL m.he.xs
 else if m.k=4 then[m.e,m.l,m.v].flatMap putL++evsL m.ne.xs
 else if m.k=5 then putL m.e++m.d
 else if m.k=6 then[m.e,m.s].flatMap putL
 else if m.k=7 then batL m.q (m.rs.xs.map BRq.of)++ctL m.ct m.cs.xs
 else textL m.st++sgsL m.sg.xs
def Mg.bytes (m:Mg):List Int:=putL m.k++m.body
structure Mg.Fine (m:Mg):Prop where
 e:m.e≤9223372036854775807
 l:m.l≤9223372036854775807
 v:m.v≤9223372036854775807
 s:m.s≤9223372036854775807
 ce:m.ce≤9223372036854775807
 cl:m.cl≤9223372036854775807
 cv:m.cv≤9223372036854775807
 rn:m.rs.xs.length≤200
 rs:∀r∈m.rs.xs,r.s.size≤4000
 hn:m.he.xs.length≤1000
 he:∀g∈m.he.xs,g.sg.xs.length≤1000∧g.rs.xs.length≤200∧∀r∈g.rs.xs,r.s.size≤4000
 nn:m.ne.xs.length≤1000
 ne:∀g∈m.ne.xs,g.s.size≤1000000
 cn:m.cs.xs.length≤1000
 gn:m.sg.xs.length≤1000
 st:m.st.size≤1000000
 all:m.bytes.length≤40000
theorem zkz {a b c:Int} (h1:a≤9223372036854775807) (h2:b≤9223372036854775807) (h3:c≤9223372036854775807):∀z∈[a,b,c],z≤9223372036854775807:=by
 intro n hn
 simp only[List.mem_cons,List.not_mem_nil,or_false]at hn
 rcases hn with rfl|rfl|rfl<;>assumption
theorem zeZ (X:Nat) (v:Value) (zs:List Int) (m:Mg) (w0 w:World) (om:m.ok) (am:m.At w0) (hf:m.Fine) (hk:m.k=1) (hb:Below w0.heap.size w0 w) (hX:w0.heap.size≤X) (h:WrAt w X v zs false) (hz:zs.length≤100000):Calls prog 58 #[.pointer (some ⟨X,0,none⟩),.agg m.ms.cells.toArray] w fun e w'=>WrOn X v zs m.bytes w e w':=by
 have hall:=hf.all
 have hbd:m.bytes=putL 1++m.body:=by unfold Mg.bytes;rw[hk]
 rw[hbd,List.length_append]at hall
 rw[hbd]
 clear hbd
 have hat:∀{w':World} {b:Nat},w'.rangeAt b 0 m.ms.cells→m.ms.at w' b:=fun hr=>om.ms.at hr
 have hkk:m.ms.k=1:=hk
 have hbody:m.body=[m.e,m.s].flatMap putL++batL m.q (m.rs.xs.map BRq.of):=by unfold Mg.body;rw[hk];rfl
 rw[hbody,List.length_append]at hall
 obtain⟨q,hq⟩:∃q,Hid (m.ms.cells=q):=⟨_,hide rfl⟩
 rw[hq.out]
 simp only[hq.out]at hat
 clear hq
 obtain⟨hB1,hR1,hs1⟩:=zA w q 52
 go_enter func58,ntmps58
 go_upto_region 1 with fail
 obtain⟨w1,hw1⟩:∃W,w.alloc (.cells q.toArray 52)=W:=⟨_,rfl⟩
 rw[hw1]at hB1 hR1 hs1 ⊢
 have h1:=h.below hB1
 have hXl:=h.lt
 clear hw1
 have MA:=hat hR1
 have ck:=MA.k
 rw[hkk]at ck
 refine pl_b ?_
 refine pl_a 4 ?_
 refine pl_a 5 ?_
 refine pl_v 6 (.int .i64 1) (zf rfl rfl ck underlying3 rfl) ?_
 refine pl_r 7 (.slice (some ⟨w1.heap.size,0,none⟩) 1 1) (w1.alloc (.cells #[.int .i64 1] 3)) (zav rfl rfl (zaA 1 _)) ?_
 refine pl_c 8 ?_
 refine(zak X v zs [1] _ 1 w1 h1 rfl rfl (by omega) (zaz (by decide)) (by simp;omega)).mono ?_
 rintro _ w2 ⟨v2,rfl,hW2,hO2,hr2⟩
 refine⟨_,rfl,?_⟩
 simp only[nz]
 refine zb ?_
 have hR2:=zae h hs1 hO2 hR1
 have T:=zF (Off.of_below hB1) (zar w v) hO2 hr2
 have hb2:=hb.trans (zad h hX T.1)
 have hW2:WrAt w2 X v2 (zs++putL 1) false:=by simpa using hW2
 have MA:=hat hR2
 have ck:=MA.k
 rw[hkk]at ck
 have HF0:∀{v':Value} {e':Ending} {w' wz:World},Off (WrF X v) w wz→RowOn w v v'→WrOn X v' (zs++putL 1++[m.e,m.s].flatMap putL) (batL m.q (m.rs.xs.map BRq.of)) wz e' w'→WrOn X v zs (putL 1++m.body) w e' w':=fun o r q=>by
  rw[hbody,←List.append_assoc]
  rw[List.append_assoc zs]at q
  exact WrOn.next o r q
 have cN:=zak X v2 (zs++putL 1) [m.e,m.s] #[.int .i64 m.e,.int .i64 m.s] 2 w2 hW2 rfl rfl (by omega) (zff hf.e hf.s) (by rw[List.length_append];omega)
 have cB:=fun v' w' (hb':Below w0.heap.size w0 w') (h':WrAt w' X v' (zs++putL 1++[m.e,m.s].flatMap putL) false)=>zdw X v' (zs++putL 1++[m.e,m.s].flatMap putL) m.q m.rs w' (am.rs.below hb') h' hf.rn hf.rs (by simp only[List.length_append];omega)
 have de:=MA.e
 have ds:=MA.s
 go_upto_region 4 with fail
 refine pl_b ?_
 refine pl_a 13 ?_
 refine pl_a 14 ?_
 refine pl_v 15 (.int .i64 m.e) (zf rfl rfl de underlying3 rfl) ?_
 refine pl_a 16 ?_
 refine pl_v 17 (.int .i64 m.s) (zf rfl rfl ds underlying3 rfl) ?_
 refine pl_r 18 (.slice (some ⟨w2.heap.size,0,none⟩) 2 2) (w2.alloc (.cells #[.int .i64 m.e,.int .i64 m.s] 3)) (zhf rfl rfl rfl (zfK m.e m.s _)) ?_
 refine pl_c 19 ?_
 refine(cN).mono ?_
 rintro _ w3 ⟨v3,rfl,hW3,hO3,hr3⟩
 refine⟨_,rfl,?_⟩
 simp only[nz]
 refine zb ?_
 have T12:=zF hO2 hr2 hO3 hr3
 have hR3:=zae h hs1 T12.1 hR1
 have T:=zF T.1 T.2 hO3 hr3
 have hb3:=hb.trans (zad h hX T.1)
 have MA:=hat hR3
 have cB3:=cB v3 w3 hb3 hW3
 have rb:w3.rangeAt w.heap.size 5 [.bool m.q,m.rs.val]:=fun j u hj=>by
  rcases j with _|_|j
  ·cases hj;exact MA.q
  ·cases hj;exact MA.rs
  ·cases hj
 clear cB cN
 go_upto_region 5 with fail
 refine pl_b ?_
 refine pl_a 20 ?_
 refine pl_a 21 ?_
 refine pl_v 22 (.agg [.bool m.q,m.rs.val].toArray) (zm rfl rfl rb underlying39 rfl iszBa) ?_
 refine pl_c 23 ?_
 refine(cB3).mono ?_
 rintro _ w4 hfin
 have HF:=hide (HF0 T.1 T.2 hfin)
 obtain⟨v9,rfl,g1,g2,g3⟩:=hfin
 refine⟨_,rfl,?_⟩
 simp only[nz]
 refine zb ?_
 go_wp2_with fail
 go_end0
 exact HF.out
theorem zit (X:Nat) (v:Value) (zs:List Int) (m:Mg) (w0 w:World) (om:m.ok) (am:m.At w0) (hf:m.Fine) (hk:m.k=2) (hb:Below w0.heap.size w0 w) (hX:w0.heap.size≤X) (h:WrAt w X v zs false) (hz:zs.length≤100000):Calls prog 58 #[.pointer (some ⟨X,0,none⟩),.agg m.ms.cells.toArray] w fun e w'=>WrOn X v zs m.bytes w e w':=by
 have hall:=hf.all
 have hbd:m.bytes=putL 2++m.body:=by unfold Mg.bytes;rw[hk]
 rw[hbd,List.length_append]at hall
 rw[hbd]
 clear hbd
 have hat:∀{w':World} {b:Nat},w'.rangeAt b 0 m.ms.cells→m.ms.at w' b:=fun hr=>om.ms.at hr
 have hkk:m.ms.k=2:=hk
 have hbody:m.body=vtL m.vt:=by unfold Mg.body;rw[hk];rfl
 rw[hbody]at hall
 obtain⟨q,hq⟩:∃q,Hid (m.ms.cells=q):=⟨_,hide rfl⟩
 rw[hq.out]
 simp only[hq.out]at hat
 clear hq
 obtain⟨hB1,hR1,hs1⟩:=zA w q 52
 go_enter func58,ntmps58
 go_upto_region 1 with fail
 obtain⟨w1,hw1⟩:∃W,w.alloc (.cells q.toArray 52)=W:=⟨_,rfl⟩
 rw[hw1]at hB1 hR1 hs1 ⊢
 have h1:=h.below hB1
 have hXl:=h.lt
 clear hw1
 have MA:=hat hR1
 have ck:=MA.k
 rw[hkk]at ck
 refine pl_b ?_
 refine pl_a 4 ?_
 refine pl_a 5 ?_
 refine pl_v 6 (.int .i64 2) (zf rfl rfl ck underlying3 rfl) ?_
 refine pl_r 7 (.slice (some ⟨w1.heap.size,0,none⟩) 1 1) (w1.alloc (.cells #[.int .i64 2] 3)) (zav rfl rfl (zaA 2 _)) ?_
 refine pl_c 8 ?_
 refine(zak X v zs [2] _ 1 w1 h1 rfl rfl (by omega) (zaz (by decide)) (by simp;omega)).mono ?_
 rintro _ w2 ⟨v2,rfl,hW2,hO2,hr2⟩
 refine⟨_,rfl,?_⟩
 simp only[nz]
 refine zb ?_
 have hR2:=zae h hs1 hO2 hR1
 have T:=zF (Off.of_below hB1) (zar w v) hO2 hr2
 have hb2:=hb.trans (zad h hX T.1)
 have hW2:WrAt w2 X v2 (zs++putL 2) false:=by simpa using hW2
 have MA:=hat hR2
 have ck:=MA.k
 rw[hkk]at ck
 have HF0:∀{v':Value} {e':Ending} {w' wz:World},Off (WrF X v) w wz→RowOn w v v'→WrOn X v' (zs++putL 2) (vtL m.vt) wz e' w'→WrOn X v zs (putL 2++m.body) w e' w':=fun o r q=>by rw[hbody];exact WrOn.next o r q
 have cV:=zeR X v2 (zs++putL 2) m.vt w2 om.vt hW2 (by rw[List.length_append];omega)
 have hix:(prog.info? 43).map (·.size)=some m.vt.cells.length:=by rw[om.vt.len];exact iszVo
 have rv:=MA.vt
 have rv:w2.rangeAt w.heap.size 7 m.vt.cells:=rv
 go_upto_region 7 with fail
 refine pl_b ?_
 refine pl_a 26 ?_
 refine pl_a 27 ?_
 refine pl_v 28 (.agg m.vt.cells.toArray) (zm rfl rfl rv underlying43 rfl hix) ?_
 refine pl_c 29 ?_
 refine(cV).mono ?_
 rintro _ w4 hfin
 have HF:=hide (HF0 T.1 T.2 hfin)
 obtain⟨v9,rfl,g1,g2,g3⟩:=hfin
 refine⟨_,rfl,?_⟩
 simp only[nz]
 refine zb ?_
 go_wp2_with fail
 go_end0
 exact HF.out
theorem zis (X:Nat) (v:Value) (zs:List Int) (m:Mg) (w0 w:World) (om:m.ok) (am:m.At w0) (hf:m.Fine) (hk:m.k=3) (hb:Below w0.heap.size w0 w) (hX:w0.heap.size≤X) (h:WrAt w X v zs false) (hz:zs.length≤100000):Calls prog 58 #[.pointer (some ⟨X,0,none⟩),.agg m.ms.cells.toArray] w fun e w'=>WrOn X v zs m.bytes w e w':=by
 have hall:=hf.all
 have hbd:m.bytes=putL 3++m.body:=by unfold Mg.bytes;rw[hk]
 rw[hbd,List.length_append]at hall
 rw[hbd]
 clear hbd
 have hat:∀{w':World} {b:Nat},w'.rangeAt b 0 m.ms.cells→m.ms.at w' b:=fun hr=>om.ms.at hr
 have hkk:m.ms.k=3:=hk
 have hbody:m.body=[m.ce,m.cl,m.cv].flatMap putL++hdsL m.he.xs:=by unfold Mg.body;rw[hk];rfl
 rw[hbody]at hall
 obtain⟨q,hq⟩:∃q,Hid (m.ms.cells=q):=⟨_,hide rfl⟩
 rw[hq.out]
 simp only[hq.out]at hat
 clear hq
 obtain⟨hB1,hR1,hs1⟩:=zA w q 52
 go_enter func58,ntmps58
 go_upto_region 1 with fail
 obtain⟨w1,hw1⟩:∃W,w.alloc (.cells q.toArray 52)=W:=⟨_,rfl⟩
 rw[hw1]at hB1 hR1 hs1 ⊢
 have h1:=h.below hB1
 have hXl:=h.lt
 clear hw1
 have MA:=hat hR1
 have ck:=MA.k
 rw[hkk]at ck
 refine pl_b ?_
 refine pl_a 4 ?_
 refine pl_a 5 ?_
 refine pl_v 6 (.int .i64 3) (zf rfl rfl ck underlying3 rfl) ?_
 refine pl_r 7 (.slice (some ⟨w1.heap.size,0,none⟩) 1 1) (w1.alloc (.cells #[.int .i64 3] 3)) (zav rfl rfl (zaA 3 _)) ?_
 refine pl_c 8 ?_
 refine(zak X v zs [3] _ 1 w1 h1 rfl rfl (by omega) (zaz (by decide)) (by simp;omega)).mono ?_
 rintro _ w2 ⟨v2,rfl,hW2,hO2,hr2⟩
 refine⟨_,rfl,?_⟩
 simp only[nz]
 refine zb ?_
 have hR2:=zae h hs1 hO2 hR1
 have T:=zF (Off.of_below hB1) (zar w v) hO2 hr2
 have hb2:=hb.trans (zad h hX T.1)
 have hW2:WrAt w2 X v2 (zs++putL 3) false:=by simpa using hW2
 have MA:=hat hR2
 have ck:=MA.k
 rw[hkk]at ck
 have HF0:∀{v':Value} {e':Ending} {w' wz:World},Off (WrF X v) w wz→RowOn w v v'→WrOn X v' (zs++putL 3) ([m.ce,m.cl,m.cv].flatMap putL++hdsL m.he.xs) wz e' w'→WrOn X v zs (putL 3++m.body) w e' w':=fun o r q=>by rw[hbody];exact WrOn.next o r q
 have cV:=ziy X v2 (zs++putL 3) m.ce m.cl m.cv m.he w0 w2 hf.ce hf.cl hf.cv am.he hb2 hX hf.hn hf.he hW2 (by rw[List.length_append];omega)
 have rc:w2.rangeAt w.heap.size 43 [.int .i64 m.ce,.int .i64 m.cl,.int .i64 m.cv,m.he.val]:=fun j u hj=>by
  rcases j with _|_|_|_|j
  ·cases hj;exact MA.ce
  ·cases hj;exact MA.cl
  ·cases hj;exact MA.cv
  ·cases hj;exact MA.he
  ·cases hj
 go_upto_region 9 with fail
 refine pl_b ?_
 refine pl_a 32 ?_
 refine pl_a 33 ?_
 refine pl_v 34 (.agg [.int .i64 m.ce,.int .i64 m.cl,.int .i64 m.cv,m.he.val].toArray) (zm rfl rfl rc underlying46 rfl iszCh) ?_
 refine pl_c 35 ?_
 refine(cV).mono ?_
 rintro _ w4 hfin
 have HF:=hide (HF0 T.1 T.2 hfin)
 obtain⟨v9,rfl,g1,g2,g3⟩:=hfin
 refine⟨_,rfl,?_⟩
 simp only[nz]
 refine zb ?_
 go_wp2_with fail
 go_end0
 exact HF.out
theorem zir (X:Nat) (v:Value) (zs:List Int) (m:Mg) (w0 w:World) (om:m.ok) (am:m.At w0) (hf:m.Fine) (hk:m.k=4) (hb:Below w0.heap.size w0 w) (hX:w0.heap.size≤X) (h:WrAt w X v zs false) (hz:zs.length≤100000):Calls prog 58 #[.pointer (some ⟨X,0,none⟩),.agg m.ms.cells.toArray] w fun e w'=>WrOn X v zs m.bytes w e w':=by
 have hall:=hf.all
 have hbd:m.bytes=putL 4++m.body:=by unfold Mg.bytes;rw[hk]
 rw[hbd,List.length_append]at hall
 rw[hbd]
 clear hbd
 have hat:∀{w':World} {b:Nat},w'.rangeAt b 0 m.ms.cells→m.ms.at w' b:=fun hr=>om.ms.at hr
 have hkk:m.ms.k=4:=hk
 have hbody:m.body=[m.e,m.l,m.v].flatMap putL++evsL m.ne.xs:=by unfold Mg.body;rw[hk];rfl
 rw[hbody,List.length_append]at hall
 obtain⟨q,hq⟩:∃q,Hid (m.ms.cells=q):=⟨_,hide rfl⟩
 rw[hq.out]
 simp only[hq.out]at hat
 clear hq
 obtain⟨hB1,hR1,hs1⟩:=zA w q 52
 go_enter func58,ntmps58
 go_upto_region 1 with fail
 obtain⟨w1,hw1⟩:∃W,w.alloc (.cells q.toArray 52)=W:=⟨_,rfl⟩
 rw[hw1]at hB1 hR1 hs1 ⊢
 have h1:=h.below hB1
 have hXl:=h.lt
 clear hw1
 have MA:=hat hR1
 have ck:=MA.k
 rw[hkk]at ck
 refine pl_b ?_
 refine pl_a 4 ?_
 refine pl_a 5 ?_
 refine pl_v 6 (.int .i64 4) (zf rfl rfl ck underlying3 rfl) ?_
 refine pl_r 7 (.slice (some ⟨w1.heap.size,0,none⟩) 1 1) (w1.alloc (.cells #[.int .i64 4] 3)) (zav rfl rfl (zaA 4 _)) ?_
 refine pl_c 8 ?_
 refine(zak X v zs [4] _ 1 w1 h1 rfl rfl (by omega) (zaz (by decide)) (by simp;omega)).mono ?_
 rintro _ w2 ⟨v2,rfl,hW2,hO2,hr2⟩
 refine⟨_,rfl,?_⟩
 simp only[nz]
 refine zb ?_
 have hR2:=zae h hs1 hO2 hR1
 have T:=zF (Off.of_below hB1) (zar w v) hO2 hr2
 have hb2:=hb.trans (zad h hX T.1)
 have hW2:WrAt w2 X v2 (zs++putL 4) false:=by simpa using hW2
 have MA:=hat hR2
 have ck:=MA.k
 rw[hkk]at ck
 have HF0:∀{v':Value} {e':Ending} {w' wz:World},Off (WrF X v) w wz→RowOn w v v'→WrOn X v' (zs++putL 4++[m.e,m.l,m.v].flatMap putL) (evsL m.ne.xs) wz e' w'→WrOn X v zs (putL 4++m.body) w e' w':=fun o r q=>by
  rw[hbody,←List.append_assoc]
  rw[List.append_assoc zs]at q
  exact WrOn.next o r q
 have cN:=zak X v2 (zs++putL 4) [m.e,m.l,m.v] #[.int .i64 m.e,.int .i64 m.l,.int .i64 m.v] 3 w2 hW2 rfl rfl (by omega) (zkz hf.e hf.l hf.v) (by rw[List.length_append];omega)
 have cE:=fun v' w' (hb':Below w0.heap.size w0 w') (h':WrAt w' X v' (zs++putL 4++[m.e,m.l,m.v].flatMap putL) false)=>ziv X v' (zs++putL 4++[m.e,m.l,m.v].flatMap putL) m.ne w0 w' am.ne hb' hX h' hf.nn (fun g hg v3 zs3 w3 _ h3 hl3=>zix X v3 zs3 g (am.ne.2.1 g hg) (hf.ne g hg) w3 h3 hl3) (by unfold evsL at hall;simp only[List.length_append]at hall ⊢;omega)
 have de:=MA.e
 have dl:=MA.l
 have dv:=MA.v
 go_upto_region 11 with fail
 refine pl_b ?_
 refine pl_a 38 ?_
 refine pl_a 39 ?_
 refine pl_v 40 (.int .i64 m.e) (zf rfl rfl de underlying3 rfl) ?_
 refine pl_a 41 ?_
 refine pl_v 42 (.int .i64 m.l) (zf rfl rfl dl underlying3 rfl) ?_
 refine pl_a 43 ?_
 refine pl_v 44 (.int .i64 m.v) (zf rfl rfl dv underlying3 rfl) ?_
 refine pl_r 45 (.slice (some ⟨w2.heap.size,0,none⟩) 3 3) (w2.alloc (.cells #[.int .i64 m.e,.int .i64 m.l,.int .i64 m.v] 3)) (zhe rfl rfl rfl rfl (zfJ m.e m.l m.v _)) ?_
 refine pl_c 46 ?_
 refine(cN).mono ?_
 rintro _ w3 ⟨v3,rfl,hW3,hO3,hr3⟩
 refine⟨_,rfl,?_⟩
 simp only[nz]
 refine zb ?_
 have T12:=zF hO2 hr2 hO3 hr3
 have hR3:=zae h hs1 T12.1 hR1
 have T:=zF T.1 T.2 hO3 hr3
 have hb3:=hb.trans (zad h hX T.1)
 have MA:=hat hR3
 have cE3:=cE v3 w3 hb3 hW3
 have dn:=MA.ne
 have dn:w3.cell? ⟨w.heap.size,47,none⟩=some m.ne.val:=dn
 unfold evsL at HF0
 clear cE cN
 go_upto_region 12 with fail
 refine pl_b ?_
 refine pl_a 47 ?_
 refine pl_a 48 ?_
 refine pl_v 49 (m.ne.val) (zf rfl rfl dn underlying47 rfl) ?_
 refine pl_a 50 ?_
 refine pl_a 51 ?_
 refine pl_c 52 ?_
 refine(cE3).mono ?_
 rintro _ w4 hfin
 have HF:=hide (HF0 T.1 T.2 hfin)
 obtain⟨v9,rfl,g1,g2,g3⟩:=hfin
 refine⟨_,rfl,?_⟩
 simp only[nz]
 refine zb ?_
 go_wp2_with fail
 go_end0
 exact HF.out
theorem ziq (X:Nat) (v:Value) (zs:List Int) (m:Mg) (w0 w:World) (om:m.ok) (am:m.At w0) (hf:m.Fine) (hk:m.k=5) (hb:Below w0.heap.size w0 w) (hX:w0.heap.size≤X) (h:WrAt w X v zs false) (hz:zs.length≤100000):Calls prog 58 #[.pointer (some ⟨X,0,none⟩),.agg m.ms.cells.toArray] w fun e w'=>WrOn X v zs m.bytes w e w':=by
 have hall:=hf.all
 have hbd:m.bytes=putL 5++m.body:=by unfold Mg.bytes;rw[hk]
 rw[hbd,List.length_append]at hall
 rw[hbd]
 clear hbd
 have hat:∀{w':World} {b:Nat},w'.rangeAt b 0 m.ms.cells→m.ms.at w' b:=fun hr=>om.ms.at hr
 have hkk:m.ms.k=5:=hk
 have hbody:m.body=putL m.e++m.d:=by unfold Mg.body;rw[hk];rfl
 rw[hbody,List.length_append]at hall
 obtain⟨q,hq⟩:∃q,Hid (m.ms.cells=q):=⟨_,hide rfl⟩
 rw[hq.out]
 simp only[hq.out]at hat
 clear hq
 obtain⟨hB1,hR1,hs1⟩:=zA w q 52
 go_enter func58,ntmps58
 go_upto_region 1 with fail
 obtain⟨w1,hw1⟩:∃W,w.alloc (.cells q.toArray 52)=W:=⟨_,rfl⟩
 rw[hw1]at hB1 hR1 hs1 ⊢
 have h1:=h.below hB1
 have hXl:=h.lt
 clear hw1
 have MA:=hat hR1
 have ck:=MA.k
 rw[hkk]at ck
 refine pl_b ?_
 refine pl_a 4 ?_
 refine pl_a 5 ?_
 refine pl_v 6 (.int .i64 5) (zf rfl rfl ck underlying3 rfl) ?_
 refine pl_r 7 (.slice (some ⟨w1.heap.size,0,none⟩) 1 1) (w1.alloc (.cells #[.int .i64 5] 3)) (zav rfl rfl (zaA 5 _)) ?_
 refine pl_c 8 ?_
 refine(zak X v zs [5] _ 1 w1 h1 rfl rfl (by omega) (zaz (by decide)) (by simp;omega)).mono ?_
 rintro _ w2 ⟨v2,rfl,hW2,hO2,hr2⟩
 refine⟨_,rfl,?_⟩
 simp only[nz]
 refine zb ?_
 have hR2:=zae h hs1 hO2 hR1
 have T:=zF (Off.of_below hB1) (zar w v) hO2 hr2
 have hb2:=hb.trans (zad h hX T.1)
 have hW2:WrAt w2 X v2 (zs++putL 5) false:=by simpa using hW2
 have MA:=hat hR2
 have ck:=MA.k
 rw[hkk]at ck
 have HF0:∀{v':Value} {e':Ending} {w' wz:World},Off (WrF X v) w wz→RowOn w v v'→WrOn X v' (zs++putL 5++putL m.e) m.d wz e' w'→WrOn X v zs (putL 5++m.body) w e' w':=fun o r q=>by
  rw[hbody,←List.append_assoc]
  rw[List.append_assoc zs]at q
  exact WrOn.next o r q
 have cN:=zak X v2 (zs++putL 5) [m.e] #[.int .i64 m.e] 1 w2 hW2 rfl rfl (by omega) (zaz hf.e) (by simp;omega)
 have de:=MA.e
 go_upto_region 14 with fail
 refine pl_b ?_
 refine pl_a 55 ?_
 refine pl_a 56 ?_
 refine pl_v 57 (.int .i64 m.e) (zf rfl rfl de underlying3 rfl) ?_
 refine pl_r 58 (.slice (some ⟨w2.heap.size,0,none⟩) 1 1) (w2.alloc (.cells #[.int .i64 m.e] 3)) (zav rfl rfl (zaA m.e _)) ?_
 refine pl_c 59 ?_
 refine(cN).mono ?_
 rintro _ w3 ⟨v3,rfl,hW3,hO3,hr3⟩
 refine⟨_,rfl,?_⟩
 simp only[nz]
 refine zb ?_
 have T12:=zF hO2 hr2 hO3 hr3
 have hR3:=zae h hs1 T12.1 hR1
 have T:=zF T.1 T.2 hO3 hr3
 have hb3:=hb.trans (zad h hX T.1)
 have MA:=hat hR3
 have hW3:WrAt w3 X v3 (zs++putL 5++putL m.e) false:=by simpa using hW3
 have rd:=MA.d
 have rd:w3.rangeAt w.heap.size 48 (v8 m.d):=rd
 have hd32:=om.dl
 have hdb:=om.db
 have hs3:=hO3.size
 have hs2:=hO2.size
 obtain⟨Z,hZ⟩:∃Z,Hid (w.heap.size=Z):=⟨_,hide rfl⟩
 have hZX:Z≠X:=by rw[←hZ.out];omega
 have hZ3:Z<w3.heap.size:=by rw[←hZ.out];omega
 rw[hZ.out]at rd ⊢
 have hrow:RowAt w3 (some ⟨Z,48,none⟩) m.d:=⟨by rw[hd32];decide,hdb,.inr ⟨_,_,rfl,hZ3,rd⟩⟩
 have cr:=zcd X v3 (zs++putL 5++putL m.e) (some ⟨Z,48,none⟩) 32 m.d w3 hW3 hrow (.inr (fun x hx=>by cases hx;exact hZX)) (by simp only[List.length_append];omega)
 rw[show m.d.length=32 from hd32]at cr
 have HT:=hide T
 clear cN MA hR3 hR2 hR1 hd32 T T12
 go_wp2_with fail
 refine cr.mono ?_
 intro _ w4 hfin
 have HF:=hide (HF0 HT.out.1 HT.out.2 hfin)
 obtain⟨v9,rfl,g1,g2,g3⟩:=hfin
 go_wp2_with fail
 go_end0
 exact HF.out
theorem zip (X:Nat) (v:Value) (zs:List Int) (m:Mg) (w0 w:World) (om:m.ok) (am:m.At w0) (hf:m.Fine) (hk:m.k=6) (hb:Below w0.heap.size w0 w) (hX:w0.heap.size≤X) (h:WrAt w X v zs false) (hz:zs.length≤100000):Calls prog 58 #[.pointer (some ⟨X,0,none⟩),.agg m.ms.cells.toArray] w fun e w'=>WrOn X v zs m.bytes w e w':=by
 have hall:=hf.all
 have hbd:m.bytes=putL 6++m.body:=by unfold Mg.bytes;rw[hk]
 rw[hbd,List.length_append]at hall
 rw[hbd]
 clear hbd
 have hat:∀{w':World} {b:Nat},w'.rangeAt b 0 m.ms.cells→m.ms.at w' b:=fun hr=>om.ms.at hr
 have hkk:m.ms.k=6:=hk
 have hbody:m.body=[m.e,m.s].flatMap putL:=by unfold Mg.body;rw[hk];rfl
 rw[hbody]at hall
 obtain⟨q,hq⟩:∃q,Hid (m.ms.cells=q):=⟨_,hide rfl⟩
 rw[hq.out]
 simp only[hq.out]at hat
 clear hq
 obtain⟨hB1,hR1,hs1⟩:=zA w q 52
 go_enter func58,ntmps58
 go_upto_region 1 with fail
 obtain⟨w1,hw1⟩:∃W,w.alloc (.cells q.toArray 52)=W:=⟨_,rfl⟩
 rw[hw1]at hB1 hR1 hs1 ⊢
 have h1:=h.below hB1
 have hXl:=h.lt
 clear hw1
 have MA:=hat hR1
 have ck:=MA.k
 rw[hkk]at ck
 refine pl_b ?_
 refine pl_a 4 ?_
 refine pl_a 5 ?_
 refine pl_v 6 (.int .i64 6) (zf rfl rfl ck underlying3 rfl) ?_
 refine pl_r 7 (.slice (some ⟨w1.heap.size,0,none⟩) 1 1) (w1.alloc (.cells #[.int .i64 6] 3)) (zav rfl rfl (zaA 6 _)) ?_
 refine pl_c 8 ?_
 refine(zak X v zs [6] _ 1 w1 h1 rfl rfl (by omega) (zaz (by decide)) (by simp;omega)).mono ?_
 rintro _ w2 ⟨v2,rfl,hW2,hO2,hr2⟩
 refine⟨_,rfl,?_⟩
 simp only[nz]
 refine zb ?_
 have hR2:=zae h hs1 hO2 hR1
 have T:=zF (Off.of_below hB1) (zar w v) hO2 hr2
 have hb2:=hb.trans (zad h hX T.1)
 have hW2:WrAt w2 X v2 (zs++putL 6) false:=by simpa using hW2
 have MA:=hat hR2
 have ck:=MA.k
 rw[hkk]at ck
 have HF0:∀{v':Value} {e':Ending} {w' wz:World},Off (WrF X v) w wz→RowOn w v v'→WrOn X v' (zs++putL 6) ([m.e,m.s].flatMap putL) wz e' w'→WrOn X v zs (putL 6++m.body) w e' w':=fun o r q=>by rw[hbody];exact WrOn.next o r q
 have cN:=zak X v2 (zs++putL 6) [m.e,m.s] #[.int .i64 m.e,.int .i64 m.s] 2 w2 hW2 rfl rfl (by omega) (zff hf.e hf.s) (by rw[List.length_append];omega)
 have de:=MA.e
 have ds:=MA.s
 go_upto_region 17 with fail
 refine pl_b ?_
 refine pl_a 66 ?_
 refine pl_a 67 ?_
 refine pl_v 68 (.int .i64 m.e) (zf rfl rfl de underlying3 rfl) ?_
 refine pl_a 69 ?_
 refine pl_v 70 (.int .i64 m.s) (zf rfl rfl ds underlying3 rfl) ?_
 refine pl_r 71 (.slice (some ⟨w2.heap.size,0,none⟩) 2 2) (w2.alloc (.cells #[.int .i64 m.e,.int .i64 m.s] 3)) (zhf rfl rfl rfl (zfK m.e m.s _)) ?_
 refine pl_c 72 ?_
 refine(cN).mono ?_
 rintro _ w4 hfin
 have HF:=hide (HF0 T.1 T.2 hfin)
 obtain⟨v9,rfl,g1,g2,g3⟩:=hfin
 refine⟨_,rfl,?_⟩
 simp only[nz]
 refine zb ?_
 go_wp2_with fail
 go_end0
 exact HF.out
theorem zio (X:Nat) (v:Value) (zs:List Int) (m:Mg) (w0 w:World) (om:m.ok) (am:m.At w0) (hf:m.Fine) (hk:m.k=7) (hb:Below w0.heap.size w0 w) (hX:w0.heap.size≤X) (h:WrAt w X v zs false) (hz:zs.length≤100000):Calls prog 58 #[.pointer (some ⟨X,0,none⟩),.agg m.ms.cells.toArray] w fun e w'=>WrOn X v zs m.bytes w e w':=by
 have hall:=hf.all
 have hbd:m.bytes=putL 7++m.body:=by unfold Mg.bytes;rw[hk]
 rw[hbd,List.length_append]at hall
 rw[hbd]
 clear hbd
 have hat:∀{w':World} {b:Nat},w'.rangeAt b 0 m.ms.cells→m.ms.at w' b:=fun hr=>om.ms.at hr
 have hkk:m.ms.k=7:=hk
 have hbody:m.body=batL m.q (m.rs.xs.map BRq.of)++ctL m.ct m.cs.xs:=by unfold Mg.body;rw[hk];rfl
 rw[hbody,List.length_append]at hall
 obtain⟨q,hq⟩:∃q,Hid (m.ms.cells=q):=⟨_,hide rfl⟩
 rw[hq.out]
 simp only[hq.out]at hat
 clear hq
 obtain⟨hB1,hR1,hs1⟩:=zA w q 52
 go_enter func58,ntmps58
 go_upto_region 1 with fail
 obtain⟨w1,hw1⟩:∃W,w.alloc (.cells q.toArray 52)=W:=⟨_,rfl⟩
 rw[hw1]at hB1 hR1 hs1 ⊢
 have h1:=h.below hB1
 have hXl:=h.lt
 clear hw1
 have MA:=hat hR1
 have ck:=MA.k
 rw[hkk]at ck
 refine pl_b ?_
 refine pl_a 4 ?_
 refine pl_a 5 ?_
 refine pl_v 6 (.int .i64 7) (zf rfl rfl ck underlying3 rfl) ?_
 refine pl_r 7 (.slice (some ⟨w1.heap.size,0,none⟩) 1 1) (w1.alloc (.cells #[.int .i64 7] 3)) (zav rfl rfl (zaA 7 _)) ?_
 refine pl_c 8 ?_
 refine(zak X v zs [7] _ 1 w1 h1 rfl rfl (by omega) (zaz (by decide)) (by simp;omega)).mono ?_
 rintro _ w2 ⟨v2,rfl,hW2,hO2,hr2⟩
 refine⟨_,rfl,?_⟩
 simp only[nz]
 refine zb ?_
 have hR2:=zae h hs1 hO2 hR1
 have T:=zF (Off.of_below hB1) (zar w v) hO2 hr2
 have hb2:=hb.trans (zad h hX T.1)
 have hW2:WrAt w2 X v2 (zs++putL 7) false:=by simpa using hW2
 have MA:=hat hR2
 have ck:=MA.k
 rw[hkk]at ck
 have HF0:∀{v':Value} {e':Ending} {w' wz:World},Off (WrF X v) w wz→RowOn w v v'→WrOn X v' (zs++putL 7++batL m.q (m.rs.xs.map BRq.of)) (ctL m.ct m.cs.xs) wz e' w'→WrOn X v zs (putL 7++m.body) w e' w':=fun o r q=>by
  rw[hbody,←List.append_assoc]
  rw[List.append_assoc zs]at q
  exact WrOn.next o r q
 have cB:=zdw X v2 (zs++putL 7) m.q m.rs w2 (am.rs.below hb2) hW2 hf.rn hf.rs (by simp only[List.length_append];omega)
 have cC:=fun v' w' (hb':Below w0.heap.size w0 w') (h':WrAt w' X v' (zs++putL 7++batL m.q (m.rs.xs.map BRq.of)) false)=>ze3 X v' (zs++putL 7++batL m.q (m.rs.xs.map BRq.of)) m.ct m.cs w0 w' om.ct am.cs hb' hX hf.cn h' (by simp only[List.length_append];omega)
 have hic:(prog.info? 50).map (·.size)=some (certL m.ct m.cs).length:=by rw[show(certL m.ct m.cs).length=37 by simp[certL,om.ct.len]];exact iszCe
 have rb:w2.rangeAt w.heap.size 5 [.bool m.q,m.rs.val]:=fun j u hj=>by
  rcases j with _|_|j
  ·cases hj;exact MA.q
  ·cases hj;exact MA.rs
  ·cases hj
 go_upto_region 19 with fail
 refine pl_b ?_
 refine pl_a 75 ?_
 refine pl_a 76 ?_
 refine pl_v 77 (.agg [.bool m.q,m.rs.val].toArray) (zm rfl rfl rb underlying39 rfl iszBa) ?_
 refine pl_c 78 ?_
 refine(cB).mono ?_
 rintro _ w3 ⟨v3,rfl,hW3,hO3,hr3⟩
 refine⟨_,rfl,?_⟩
 simp only[nz]
 refine zb ?_
 have T12:=zF hO2 hr2 hO3 hr3
 have hR3:=zae h hs1 T12.1 hR1
 have T:=zF T.1 T.2 hO3 hr3
 have hb3:=hb.trans (zad h hX T.1)
 have MA:=hat hR3
 have cC3:=cC v3 w3 hb3 hW3
 have rc:=MA.ct
 have rc:w3.rangeAt w.heap.size 80 (certL m.ct m.cs):=rc
 clear cC cB
 go_upto_region 20 with fail
 refine pl_b ?_
 refine pl_a 79 ?_
 refine pl_a 80 ?_
 refine pl_v 81 (.agg (certL m.ct m.cs).toArray) (zm rfl rfl rc underlying50 rfl hic) ?_
 refine pl_c 82 ?_
 refine(cC3).mono ?_
 rintro _ w4 hfin
 have HF:=hide (HF0 T.1 T.2 hfin)
 obtain⟨v9,rfl,g1,g2,g3⟩:=hfin
 refine⟨_,rfl,?_⟩
 simp only[nz]
 refine zb ?_
 go_wp2_with fail
 go_end0
 exact HF.out
theorem zin (X:Nat) (v:Value) (zs:List Int) (m:Mg) (w0 w:World) (om:m.ok) (am:m.At w0) (hf:m.Fine) (hk:m.k=8) (hb:Below w0.heap.size w0 w) (hX:w0.heap.size≤X) (h:WrAt w X v zs false) (hz:zs.length≤100000):Calls prog 58 #[.pointer (some ⟨X,0,none⟩),.agg m.ms.cells.toArray] w fun e w'=>WrOn X v zs m.bytes w e w':=by
 have hall:=hf.all
 have hbd:m.bytes=putL 8++m.body:=by unfold Mg.bytes;rw[hk]
 rw[hbd,List.length_append]at hall
 rw[hbd]
 clear hbd
 have hat:∀{w':World} {b:Nat},w'.rangeAt b 0 m.ms.cells→m.ms.at w' b:=fun hr=>om.ms.at hr
 have hkk:m.ms.k=8:=hk
 have hbody:m.body=textL m.st++sgsL m.sg.xs:=by unfold Mg.body;rw[hk];rfl
 rw[hbody,List.length_append]at hall
 obtain⟨q,hq⟩:∃q,Hid (m.ms.cells=q):=⟨_,hide rfl⟩
 rw[hq.out]
 simp only[hq.out]at hat
 clear hq
 obtain⟨hB1,hR1,hs1⟩:=zA w q 52
 go_enter func58,ntmps58
 go_upto_region 1 with fail
 obtain⟨w1,hw1⟩:∃W,w.alloc (.cells q.toArray 52)=W:=⟨_,rfl⟩
 rw[hw1]at hB1 hR1 hs1 ⊢
 have h1:=h.below hB1
 have hXl:=h.lt
 clear hw1
 have MA:=hat hR1
 have ck:=MA.k
 rw[hkk]at ck
 refine pl_b ?_
 refine pl_a 4 ?_
 refine pl_a 5 ?_
 refine pl_v 6 (.int .i64 8) (zf rfl rfl ck underlying3 rfl) ?_
 refine pl_r 7 (.slice (some ⟨w1.heap.size,0,none⟩) 1 1) (w1.alloc (.cells #[.int .i64 8] 3)) (zav rfl rfl (zaA 8 _)) ?_
 refine pl_c 8 ?_
 refine(zak X v zs [8] _ 1 w1 h1 rfl rfl (by omega) (zaz (by decide)) (by simp;omega)).mono ?_
 rintro _ w2 ⟨v2,rfl,hW2,hO2,hr2⟩
 refine⟨_,rfl,?_⟩
 simp only[nz]
 refine zb ?_
 have hR2:=zae h hs1 hO2 hR1
 have T:=zF (Off.of_below hB1) (zar w v) hO2 hr2
 have hb2:=hb.trans (zad h hX T.1)
 have hW2:WrAt w2 X v2 (zs++putL 8) false:=by simpa using hW2
 have MA:=hat hR2
 have ck:=MA.k
 rw[hkk]at ck
 have HF0:∀{v':Value} {e':Ending} {w' wz:World},Off (WrF X v) w wz→RowOn w v v'→WrOn X v' (zs++putL 8++textL m.st) (sgsL m.sg.xs) wz e' w'→WrOn X v zs (putL 8++m.body) w e' w':=fun o r q=>by
  rw[hbody,←List.append_assoc]
  rw[List.append_assoc zs]at q
  exact WrOn.next o r q
 have cT:=zeT X v2 (zs++putL 8) m.st w2 hW2 hf.st (by simp only[List.length_append];omega)
 have cG:=fun v' w' (hb':Below w0.heap.size w0 w') (h':WrAt w' X v' (zs++putL 8++textL m.st) false)=>ze0 X v' (zs++putL 8++textL m.st) m.sg w0 w' am.sg hb' hX h' hf.gn (fun g hg v3 zs3 w3 _ h3 hl3=>zeV X v3 zs3 g (am.sg.2.1 g hg) w3 h3 hl3) (by unfold sgsL at hall;simp only[List.length_append]at hall ⊢;omega)
 have dst:=MA.st
 have dst:w2.cell? ⟨w.heap.size,117,none⟩=some (.string m.st):=dst
 go_upto_region 22 with fail
 refine pl_b ?_
 refine pl_a 85 ?_
 refine pl_a 86 ?_
 refine pl_v 87 (.string m.st) (zf rfl rfl dst underlying9 rfl) ?_
 refine pl_c 88 ?_
 refine(cT).mono ?_
 rintro _ w3 ⟨v3,rfl,hW3,hO3,hr3⟩
 refine⟨_,rfl,?_⟩
 simp only[nz]
 refine zb ?_
 have T12:=zF hO2 hr2 hO3 hr3
 have hR3:=zae h hs1 T12.1 hR1
 have T:=zF T.1 T.2 hO3 hr3
 have hb3:=hb.trans (zad h hX T.1)
 have MA:=hat hR3
 have cG3:=cG v3 w3 hb3 hW3
 have dg:=MA.sg
 have dg:w3.cell? ⟨w.heap.size,118,none⟩=some m.sg.val:=dg
 unfold sgsL at HF0
 clear cG cT
 go_upto_region 23 with fail
 refine pl_b ?_
 refine pl_a 89 ?_
 refine pl_a 90 ?_
 refine pl_v 91 (m.sg.val) (zf rfl rfl dg underlying48 rfl) ?_
 refine pl_a 92 ?_
 refine pl_a 93 ?_
 refine pl_c 94 ?_
 refine(cG3).mono ?_
 rintro _ w4 hfin
 have HF:=hide (HF0 T.1 T.2 hfin)
 obtain⟨v9,rfl,g1,g2,g3⟩:=hfin
 refine⟨_,rfl,?_⟩
 simp only[nz]
 refine zb ?_
 go_wp2_with fail
 go_end0
 exact HF.out
theorem zil (X:Nat) (v:Value) (zs:List Int) (m:Mg) (w0 w:World) (om:m.ok) (am:m.At w0) (hf:m.Fine) (h1:1≤m.k) (h8:m.k≤8) (hb:Below w0.heap.size w0 w) (hX:w0.heap.size≤X) (h:WrAt w X v zs false) (hz:zs.length≤100000):Calls prog 58 #[.pointer (some ⟨X,0,none⟩),.agg m.ms.cells.toArray] w fun e w'=>WrOn X v zs m.bytes w e w':=by
 have hk:m.k=1∨m.k=2∨m.k=3∨m.k=4∨m.k=5∨m.k=6∨m.k=7∨m.k=8:=by omega
 rcases hk with hk|hk|hk|hk|hk|hk|hk|hk
 ·exact zeZ X v zs m w0 w om am hf hk hb hX h hz
 ·exact zit X v zs m w0 w om am hf hk hb hX h hz
 ·exact zis X v zs m w0 w om am hf hk hb hX h hz
 ·exact zir X v zs m w0 w om am hf hk hb hX h hz
 ·exact ziq X v zs m w0 w om am hf hk hb hX h hz
 ·exact zip X v zs m w0 w om am hf hk hb hX h hz
 ·exact zio X v zs m w0 w om am hf hk hb hX h hz
 ·exact zin X v zs m w0 w om am hf hk hb hX h hz
def FOn (zs bs:List Int) (w:World) (e:Ending) (w':World):Prop:=∃v,e=.returned v∧Mine w' w.heap.size v (zs++bs)∧Below w.heap.size w w'
theorem zkP {m:Mg} {w:World} {b:Nat} (h:m.ms.at w b):w.rangeAt b 5 [.bool m.q,m.rs.val]:=fun j u hj=>by
 rcases j with _|_|j
 ·cases hj;exact h.q
 ·cases hj;exact h.rs
 ·cases hj
theorem zgZ {g:Hd} {w:World} {b o:Nat} (hv:g.vt.ok) (h:w.rangeAt b o g.cells):w.rangeAt b o [.bool g.q,g.rs.val]∧w.rangeAt b (o+2) (certL g.vt g.sg):=by
 have h:w.rangeAt b o ([.bool g.q,g.rs.val]++certL g.vt g.sg):=h
 exact⟨zI h,by simpa using zO h⟩
theorem zh4 (a:Option Addr) (cap:Nat) (rs:List Sg) (a':Option Addr) (cap':Nat) (rs':List Sg) (w:World) (h:RowsAt SgE w a rs) (h':RowsAt SgE w a' rs'):
  Calls prog 37 #[.slice a rs.length cap,.slice a' rs'.length cap'] w fun e w'=>((e=.returned (.bool true)∧rs=rs')∨(e=.returned (.bool false)∧¬rs=rs'))∧Below w.heap.size w w':=by
 have hml:=h.1
 have hml':=h'.1
 unfold maxLen at hml hml'
 have hall:=h.2.1
 have hall':=h'.2.1
 by_cases hlen:rs.length=rs'.length
 rotate_left
 ·have e0:((rs.length:Int)==rs'.length)=false:=by simp;omega
  have HL:=hide hlen
  clear hlen
  go_enter func37,ntmps37
  go_wp2
  go_ret
  exact⟨.inr ⟨rfl,fun hh=>HL.out (by rw[hh])⟩,Below.refl _ _⟩
 ·have e0:((rs.length:Int)==rs'.length)=true:=by simp;omega
  have HL:=hide hlen
  clear hlen
  go_enter func37,ntmps37
  go_wp2
  go_loopw [5] (fun iv wr=>∃k:Nat,k≤rs.length∧iv=.int .i64 (k:Int)∧Hid (∀j (hj:j<rs.length) (hj':j<rs'.length),j<k→rs[j]=rs'[j])∧Below w.heap.size w wr) (fun iv _=>rs.length - (intOf iv).toNat)
  case atStart=>exact⟨0,by omega,rfl,hide (fun j _ _ hj=>absurd hj (by omega)),Below.refl _ _⟩
  case round=>
   clear e0
   obtain⟨k,hk,rfl,HM,hB⟩:=hrel
   by_cases hlt:k<rs.length
   ·have k1:(k:Int)<rs.length:=by omega
    have hlt':k<rs'.length:=by have:=HL.out;omega
    have k1':(k:Int)<rs'.length:=by omega
    obtain⟨b,off,rfl,hb,hre⟩:=(h.below hB).elem k hlt
    have hre:wr.rangeAt b (off+k*17) rs[k].cells:=hre
    obtain⟨b',off',rfl,hb',hre'⟩:=(h'.below hB).elem k hlt'
    have hre':wr.rangeAt b' (off'+k*17) rs'[k].cells:=hre'
    obtain⟨r,hr⟩:∃r,Hid (rs[k]=r):=⟨_,hide rfl⟩
    obtain⟨r',hr'⟩:∃r',Hid (rs'[k]=r'):=⟨_,hide rfl⟩
    have hok:r.ok:=by rw[←hr.out];exact hall _ (List.getElem_mem hlt)
    have hok':r'.ok:=by rw[←hr'.out];exact hall' _ (List.getElem_mem hlt')
    rw[hr.out]at hre
    rw[hr'.out]at hre'
    have HM':Hid (r=r'→∀j (hj:j<rs.length) (hj':j<rs'.length),j<k+1→rs[j]=rs'[j]):=hide (fun hp j hj hj' hjk=>by
     by_cases e:j=k
     ·subst e;rw[hr.out,hr'.out];exact hp
     ·exact HM.out j hj hj' (by omega))
    have HN':Hid (r≠r'→rs≠rs'):=hide (fun hp he=>by
     apply hp
     rw[←hr.out,←hr'.out]
     subst he
     rfl)
    clear hr hr' HM
    have hiu:(prog.info? 133).map (·.size)=some r.cells.length:=by rw[show r.cells.length=17 from SgE.len r hok];kernel_rfl
    have hiu':(prog.info? 133).map (·.size)=some r'.cells.length:=by rw[show r'.cells.length=17 from SgE.len r' hok'];kernel_rfl
    have hne:=fun w0=>Sg.eq10 r r' hok hok' w0
    obtain⟨u,hu⟩:∃u,Hid (r.cells=u):=⟨_,hide rfl⟩
    obtain⟨u',hu'⟩:∃u',Hid (r'.cells=u'):=⟨_,hide rfl⟩
    rw[hu.out]at hre hiu
    rw[hu'.out]at hre' hiu'
    simp only[hu.out,hu'.out]at hne
    clear hu hu' hok hok'
    by_cases hrr:r=r'
    ·have e1:Sg.B r r'=true:=Sg.B_iff.2 hrr
     rw[e1]at hne
     have HR:=hide hrr
     clear hrr e1
     go_upto_region 6 with fail
     obtain⟨w5,hw5⟩:∃w5,wr.drew=w5:=⟨_,rfl⟩
     have hB5:Below w.heap.size w w5:=by rw[←hw5];exact hB.drew
     have hre5:w5.rangeAt b (off+k*17) u:=by rw[←hw5];exact(World.rangeAt_drew _ _ _ _).2 hre
     have hre5':w5.rangeAt b' (off'+k*17) u':=by rw[←hw5];exact(World.rangeAt_drew _ _ _ _).2 hre'
     have hb5:b<w5.heap.size:=by rw[←hw5];exact hb
     have hb5':b'<w5.heap.size:=by rw[←hw5];exact hb'
     refine zw (S:=(Below w5.heap.size w5)) 9 rfl (by kernel_rfl) ?_
     rw[hw5]
     clear hw5 hB hre hre' hb hb'
     have hS:(Below w5.heap.size w5) w5:=Below.refl _ _
     refine hs_a 0 17 hS ?_
     refine hs_a 1 18 hS ?_
     refine hs_a 2 19 hS ?_
     refine hs_v 3 20 (.agg u.toArray) rfl (fun w' hw=>zu rfl rfl (run_loadVar_mid (P:=prog) w' b (off+k*17) 133 u _ (za hre5 hw hb5) underlying133 rfl hiu)) hS ?_
     refine hs_a 4 21 hS ?_
     refine hs_a 5 22 hS ?_
     refine hs_a 6 23 hS ?_
     refine hs_v 7 24 (.agg u'.toArray) rfl (fun w' hw=>zu rfl rfl (run_loadVar_mid (P:=prog) w' b' (off'+k*17) 133 u' _ (za hre5' hw hb5') underlying133 rfl hiu')) hS ?_
     refine hs_v 8 25 (.bool false) rfl (fun w' hw=>by have hc:=hne w';go_simp) hS ?_
     refine zv (by kernel_rfl) ?_
     go_wp2
     go_roundw
     case rel=>exact⟨k+1,by omega,by go_num,hide (HM'.out HR.out),hB5⟩
     case measure=>simp[intOf];omega
    ·have e1:Sg.B r r'=false:=by
      cases hx:Sg.B r r'
      ·rfl
      ·exact absurd (Sg.B_iff.1 hx) hrr
     rw[e1]at hne
     have HR:=hide hrr
     clear hrr e1
     go_upto_region 6 with fail
     obtain⟨w5,hw5⟩:∃w5,wr.drew=w5:=⟨_,rfl⟩
     have hB5:Below w.heap.size w w5:=by rw[←hw5];exact hB.drew
     have hre5:w5.rangeAt b (off+k*17) u:=by rw[←hw5];exact(World.rangeAt_drew _ _ _ _).2 hre
     have hre5':w5.rangeAt b' (off'+k*17) u':=by rw[←hw5];exact(World.rangeAt_drew _ _ _ _).2 hre'
     have hb5:b<w5.heap.size:=by rw[←hw5];exact hb
     have hb5':b'<w5.heap.size:=by rw[←hw5];exact hb'
     refine zw (S:=(Below w5.heap.size w5)) 9 rfl (by kernel_rfl) ?_
     rw[hw5]
     clear hw5 hB hre hre' hb hb'
     have hS:(Below w5.heap.size w5) w5:=Below.refl _ _
     refine hs_a 0 17 hS ?_
     refine hs_a 1 18 hS ?_
     refine hs_a 2 19 hS ?_
     refine hs_v 3 20 (.agg u.toArray) rfl (fun w' hw=>zu rfl rfl (run_loadVar_mid (P:=prog) w' b (off+k*17) 133 u _ (za hre5 hw hb5) underlying133 rfl hiu)) hS ?_
     refine hs_a 4 21 hS ?_
     refine hs_a 5 22 hS ?_
     refine hs_a 6 23 hS ?_
     refine hs_v 7 24 (.agg u'.toArray) rfl (fun w' hw=>zu rfl rfl (run_loadVar_mid (P:=prog) w' b' (off'+k*17) 133 u' _ (za hre5' hw hb5') underlying133 rfl hiu')) hS ?_
     refine hs_v 8 25 (.bool true) rfl (fun w' hw=>by have hc:=hne w';go_simp) hS ?_
     refine zv (by kernel_rfl) ?_
     go_wp2
     go_ret
     exact⟨.inr ⟨rfl,fun hh=>HN'.out HR.out hh⟩,hB5⟩
   ·have k1:¬(k:Int)<rs.length:=by omega
    have HE:Hid (rs=rs'):=hide (List.ext_getElem HL.out (fun j hj hj'=>HM.out j hj hj' (by omega)))
    clear HM
    go_wp2
    go_ret
    exact⟨.inl ⟨rfl,HE.out⟩,hB⟩
theorem zeP (a:Option Addr) (cap:Nat) (rs:List Sg) (a':Option Addr) (cap':Nat) (rs':List Sg) (w:World) (h:RowsAt SgE w a rs) (h':RowsAt SgE w a' rs'):
  Calls prog 37 #[.slice a rs.length cap,.slice a' rs'.length cap'] w fun e w'=>e=.returned (.bool (sameL Sg.B rs rs'))∧Below w.heap.size w w':=by
 refine(zh4 a cap rs a' cap' rs' w h h').mono ?_
 rintro e w1 ⟨hc,hb⟩
 have I:=zay (fun x y=>Sg.B_iff (x:=x) (y:=y)) rs rs'
 refine⟨?_,hb⟩
 rcases hc with⟨rfl,he⟩|⟨rfl,he⟩
 ·rw[I.2 he]
 ·cases hq:sameL Sg.B rs rs'
  ·rfl
  ·exact absurd (I.1 hq) he
theorem zh6 (a:Option Addr) (cap:Nat) (rs:List Ev) (a':Option Addr) (cap':Nat) (rs':List Ev) (w:World) (h:RowsAt EvE w a rs) (h':RowsAt EvE w a' rs'):
  Calls prog 35 #[.slice a rs.length cap,.slice a' rs'.length cap'] w fun e w'=>((e=.returned (.bool true)∧rs=rs')∨(e=.returned (.bool false)∧¬rs=rs'))∧Below w.heap.size w w':=by
 have hml:=h.1
 have hml':=h'.1
 unfold maxLen at hml hml'
 have hall:=h.2.1
 have hall':=h'.2.1
 by_cases hlen:rs.length=rs'.length
 rotate_left
 ·have e0:((rs.length:Int)==rs'.length)=false:=by simp;omega
  have HL:=hide hlen
  clear hlen
  go_enter func35,ntmps35
  go_wp2
  go_ret
  exact⟨.inr ⟨rfl,fun hh=>HL.out (by rw[hh])⟩,Below.refl _ _⟩
 ·have e0:((rs.length:Int)==rs'.length)=true:=by simp;omega
  have HL:=hide hlen
  clear hlen
  go_enter func35,ntmps35
  go_wp2
  go_loopw [5] (fun iv wr=>∃k:Nat,k≤rs.length∧iv=.int .i64 (k:Int)∧Hid (∀j (hj:j<rs.length) (hj':j<rs'.length),j<k→rs[j]=rs'[j])∧Below w.heap.size w wr) (fun iv _=>rs.length - (intOf iv).toNat)
  case atStart=>exact⟨0,by omega,rfl,hide (fun j _ _ hj=>absurd hj (by omega)),Below.refl _ _⟩
  case round=>
   clear e0
   obtain⟨k,hk,rfl,HM,hB⟩:=hrel
   by_cases hlt:k<rs.length
   ·have k1:(k:Int)<rs.length:=by omega
    have hlt':k<rs'.length:=by have:=HL.out;omega
    have k1':(k:Int)<rs'.length:=by omega
    obtain⟨b,off,rfl,hb,hre⟩:=(h.below hB).elem k hlt
    have hre:wr.rangeAt b (off+k*18) rs[k].cells:=hre
    obtain⟨b',off',rfl,hb',hre'⟩:=(h'.below hB).elem k hlt'
    have hre':wr.rangeAt b' (off'+k*18) rs'[k].cells:=hre'
    obtain⟨r,hr⟩:∃r,Hid (rs[k]=r):=⟨_,hide rfl⟩
    obtain⟨r',hr'⟩:∃r',Hid (rs'[k]=r'):=⟨_,hide rfl⟩
    have hok:r.ok:=by rw[←hr.out];exact hall _ (List.getElem_mem hlt)
    have hok':r'.ok:=by rw[←hr'.out];exact hall' _ (List.getElem_mem hlt')
    rw[hr.out]at hre
    rw[hr'.out]at hre'
    have HM':Hid (r=r'→∀j (hj:j<rs.length) (hj':j<rs'.length),j<k+1→rs[j]=rs'[j]):=hide (fun hp j hj hj' hjk=>by
     by_cases e:j=k
     ·subst e;rw[hr.out,hr'.out];exact hp
     ·exact HM.out j hj hj' (by omega))
    have HN':Hid (r≠r'→rs≠rs'):=hide (fun hp he=>by
     apply hp
     rw[←hr.out,←hr'.out]
     subst he
     rfl)
    clear hr hr' HM
    have hiu:(prog.info? 25).map (·.size)=some r.cells.length:=by rw[show r.cells.length=18 from EvE.len r hok];kernel_rfl
    have hiu':(prog.info? 25).map (·.size)=some r'.cells.length:=by rw[show r'.cells.length=18 from EvE.len r' hok'];kernel_rfl
    have hne:=fun w0=>Ev.eq10 r r' hok hok' w0
    obtain⟨u,hu⟩:∃u,Hid (r.cells=u):=⟨_,hide rfl⟩
    obtain⟨u',hu'⟩:∃u',Hid (r'.cells=u'):=⟨_,hide rfl⟩
    rw[hu.out]at hre hiu
    rw[hu'.out]at hre' hiu'
    simp only[hu.out,hu'.out]at hne
    clear hu hu' hok hok'
    by_cases hrr:r=r'
    ·have e1:Ev.B r r'=true:=Ev.B_iff.2 hrr
     rw[e1]at hne
     have HR:=hide hrr
     clear hrr e1
     go_upto_region 6 with fail
     obtain⟨w5,hw5⟩:∃w5,wr.drew=w5:=⟨_,rfl⟩
     have hB5:Below w.heap.size w w5:=by rw[←hw5];exact hB.drew
     have hre5:w5.rangeAt b (off+k*18) u:=by rw[←hw5];exact(World.rangeAt_drew _ _ _ _).2 hre
     have hre5':w5.rangeAt b' (off'+k*18) u':=by rw[←hw5];exact(World.rangeAt_drew _ _ _ _).2 hre'
     have hb5:b<w5.heap.size:=by rw[←hw5];exact hb
     have hb5':b'<w5.heap.size:=by rw[←hw5];exact hb'
     refine zw (S:=(Below w5.heap.size w5)) 9 rfl (by kernel_rfl) ?_
     rw[hw5]
     clear hw5 hB hre hre' hb hb'
     have hS:(Below w5.heap.size w5) w5:=Below.refl _ _
     refine hs_a 0 17 hS ?_
     refine hs_a 1 18 hS ?_
     refine hs_a 2 19 hS ?_
     refine hs_v 3 20 (.agg u.toArray) rfl (fun w' hw=>zu rfl rfl (run_loadVar_mid (P:=prog) w' b (off+k*18) 25 u _ (za hre5 hw hb5) underlying25 rfl hiu)) hS ?_
     refine hs_a 4 21 hS ?_
     refine hs_a 5 22 hS ?_
     refine hs_a 6 23 hS ?_
     refine hs_v 7 24 (.agg u'.toArray) rfl (fun w' hw=>zu rfl rfl (run_loadVar_mid (P:=prog) w' b' (off'+k*18) 25 u' _ (za hre5' hw hb5') underlying25 rfl hiu')) hS ?_
     refine hs_v 8 25 (.bool false) rfl (fun w' hw=>by have hc:=hne w';go_simp) hS ?_
     refine zv (by kernel_rfl) ?_
     go_wp2
     go_roundw
     case rel=>exact⟨k+1,by omega,by go_num,hide (HM'.out HR.out),hB5⟩
     case measure=>simp[intOf];omega
    ·have e1:Ev.B r r'=false:=by
      cases hx:Ev.B r r'
      ·rfl
      ·exact absurd (Ev.B_iff.1 hx) hrr
     rw[e1]at hne
     have HR:=hide hrr
     clear hrr e1
     go_upto_region 6 with fail
     obtain⟨w5,hw5⟩:∃w5,wr.drew=w5:=⟨_,rfl⟩
     have hB5:Below w.heap.size w w5:=by rw[←hw5];exact hB.drew
     have hre5:w5.rangeAt b (off+k*18) u:=by rw[←hw5];exact(World.rangeAt_drew _ _ _ _).2 hre
     have hre5':w5.rangeAt b' (off'+k*18) u':=by rw[←hw5];exact(World.rangeAt_drew _ _ _ _).2 hre'
     have hb5:b<w5.heap.size:=by rw[←hw5];exact hb
     have hb5':b'<w5.heap.size:=by rw[←hw5];exact hb'
     refine zw (S:=(Below w5.heap.size w5)) 9 rfl (by kernel_rfl) ?_
     rw[hw5]
     clear hw5 hB hre hre' hb hb'
     have hS:(Below w5.heap.size w5) w5:=Below.refl _ _
     refine hs_a 0 17 hS ?_
     refine hs_a 1 18 hS ?_
     refine hs_a 2 19 hS ?_
     refine hs_v 3 20 (.agg u.toArray) rfl (fun w' hw=>zu rfl rfl (run_loadVar_mid (P:=prog) w' b (off+k*18) 25 u _ (za hre5 hw hb5) underlying25 rfl hiu)) hS ?_
     refine hs_a 4 21 hS ?_
     refine hs_a 5 22 hS ?_
     refine hs_a 6 23 hS ?_
     refine hs_v 7 24 (.agg u'.toArray) rfl (fun w' hw=>zu rfl rfl (run_loadVar_mid (P:=prog) w' b' (off'+k*18) 25 u' _ (za hre5' hw hb5') underlying25 rfl hiu')) hS ?_
     refine hs_v 8 25 (.bool true) rfl (fun w' hw=>by have hc:=hne w';go_simp) hS ?_
     refine zv (by kernel_rfl) ?_
     go_wp2
     go_ret
     exact⟨.inr ⟨rfl,fun hh=>HN'.out HR.out hh⟩,hB5⟩
   ·have k1:¬(k:Int)<rs.length:=by omega
    have HE:Hid (rs=rs'):=hide (List.ext_getElem HL.out (fun j hj hj'=>HM.out j hj hj' (by omega)))
    clear HM
    go_wp2
    go_ret
    exact⟨.inl ⟨rfl,HE.out⟩,hB⟩
theorem zh5 (a:Option Addr) (cap:Nat) (rs:List Ev) (a':Option Addr) (cap':Nat) (rs':List Ev) (w:World) (h:RowsAt EvE w a rs) (h':RowsAt EvE w a' rs'):
  Calls prog 35 #[.slice a rs.length cap,.slice a' rs'.length cap'] w fun e w'=>e=.returned (.bool (sameL Ev.B rs rs'))∧Below w.heap.size w w':=by
 refine(zh6 a cap rs a' cap' rs' w h h').mono ?_
 rintro e w1 ⟨hc,hb⟩
 have I:=zay (fun x y=>Ev.B_iff (x:=x) (y:=y)) rs rs'
 refine⟨?_,hb⟩
 rcases hc with⟨rfl,he⟩|⟨rfl,he⟩
 ·rw[I.2 he]
 ·cases hq:sameL Ev.B rs rs'
  ·rfl
  ·exact absurd (I.1 hq) he
theorem zeO (x y:Vt) (s t:Sl Sg) (w:World) (hx:x.ok) (hy:y.ok) (hs:s.At SgE w) (ht:t.At SgE w):Calls prog 36 #[.agg (certL x s).toArray,.agg (certL y t).toArray] w fun e w'=>e=.returned (.bool (certB x s y t))∧Below w.heap.size w w':=by
 obtain⟨hA,hA',hB,hz⟩:=zbN (certL x s) (certL y t) 50 w
 have r1:=zI hA
 have r1':=zI hA'
 have c1:=zO hA 0 _ rfl
 have c1':=zO hA' 0 _ rfl
 rw[hx.len]at c1
 rw[hy.len]at c1'
 simp only[Nat.zero_add,Nat.add_zero]at c1 c1'
 have ix:(prog.info? 43).map (·.size)=some x.cells.length:=by rw[hx.len];exact iszV
 have iy:(prog.info? 43).map (·.size)=some y.cells.length:=by rw[hy.len];exact iszV
 have hq:=eqInV x y hx.dl hy.dl
 obtain⟨a,cap,rs⟩:=s
 obtain⟨a',cap',rs'⟩:=t
 have ce:=fun w0 h0 h1=>zeP a cap rs a' cap' rs' w0 h0 h1
 have h1:RowsAt SgE _ a rs:=RowsAt.below hs hB
 have h1':RowsAt SgE _ a' rs':=RowsAt.below ht hB
 have E:certB x ⟨a,cap,rs⟩ y ⟨a',cap',rs'⟩=(vtB x y&&sameL Sg.B rs rs'):=rfl
 rw[E]
 simp only[Sl.val]at c1 c1'
 clear hA hA' hz hx hy E hs ht
 generalize certL x ⟨a,cap,rs⟩=q at *
 generalize certL y ⟨a',cap',rs'⟩=q' at *
 generalize x.cells=u at *
 generalize y.cells=u' at *
 generalize vtB x y=vb at *
 generalize sameL Sg.B rs rs'=sb at *
 cases vb
 ·go_enter func36,ntmps36
  go_upto_region 1 with fail
  go_name_world w1 hw1
  rw[show(w.alloc (.cells q.toArray 50)).alloc (.cells q'.toArray 50)=w1 from hw1]at r1 r1' c1 c1' hB h1 h1'
  clear hw1 ce
  go_wp2_with (first|(refine wpList_load_mid rfl 43 _ rfl _ _ rfl u _ r1 underlying43 rfl ix ?_)|(refine wpList_load_mid rfl 43 _ rfl _ _ rfl u' _ r1' underlying43 rfl iy ?_))
  go_ret
  exact⟨rfl,hB⟩
 ·cases sb
  all_goals
   go_enter func36,ntmps36
   go_upto_region 1 with fail
   go_name_world w1 hw1
   rw[show(w.alloc (.cells q.toArray 50)).alloc (.cells q'.toArray 50)=w1 from hw1]at r1 r1' c1 c1' hB h1 h1'
   clear hw1
   go_wp2_with (first|(refine wpList_load_mid rfl 43 _ rfl _ _ rfl u _ r1 underlying43 rfl ix ?_)|(refine wpList_load_mid rfl 43 _ rfl _ _ rfl u' _ r1' underlying43 rfl iy ?_))
   refine(ce _ h1 h1').mono ?_
   rintro e2 w2 ⟨rfl,hb2⟩
   have hB2:=hB.trans (hb2.mono hB.size)
   clear ce h1 h1' hb2 c1 c1' r1 r1'
   go_wp2
   go_ret
   exact⟨rfl,hB2⟩
theorem zeQ (q:Bool) (x:Sl Rq) (q':Bool) (x':Sl Rq) (w:World) (h:x.At RqE w) (h':x'.At RqE w):
    Calls prog 34 #[.agg #[.bool q,x.val],.agg #[.bool q',x'.val]] w fun e w'=>e=.returned (.bool (batB q x q' x'))∧Below w.heap.size w w':=by
  obtain⟨a,cap,rs⟩:=x
  obtain⟨a',cap',rs'⟩:=x'
  have hB0:Below w.heap.size w ((w.alloc (.cells #[.bool q,.slice a rs.length cap] 39)).alloc (.cells #[.bool q',.slice a' rs'.length cap'] 39)):=((Below.refl _ w).alloc (Nat.le_refl _) _).alloc (by simp) _
  obtain⟨hA,hA',_,hz⟩:=zbN [.bool q,.slice a rs.length cap] [.bool q',.slice a' rs'.length cap'] 39 w
  have c0:=hA 0 _ rfl
  have c1:=hA 1 _ rfl
  have c0':=hA' 0 _ rfl
  have c1':=hA' 1 _ rfl
  simp only[Nat.zero_add,Nat.add_zero]at c0 c1 c0' c1'
  have h1:RowsAt RqE _ a rs:=RowsAt.below h hB0
  have h1':RowsAt RqE _ a' rs':=RowsAt.below h' hB0
  have hml:rs.length≤maxLen:=h1.1
  have hml':rs'.length≤maxLen:=h1'.1
  unfold maxLen at hml hml'
  have E:batB q ⟨a,cap,rs⟩ q' ⟨a',cap',rs'⟩=((q==q')&&sameL Rq.B rs rs'):=rfl
  rw[E]
  have hall:=h1.2.1
  have hall':=h1'.2.1
  clear E h h' hA hA'
  simp only[Sl.val]
  obtain⟨W,hW⟩:∃W,Hid ((w.alloc (.cells #[.bool q,.slice a rs.length cap] 39)).alloc (.cells #[.bool q',.slice a' rs'.length cap'] 39)=W):=⟨_,hide rfl⟩
  rw[hW.out]at hB0 h1 h1'
  change World.cell? ((w.alloc (.cells #[.bool q,.slice a rs.length cap] 39)).alloc (.cells #[.bool q',.slice a' rs'.length cap'] 39)) _=_ at c0 c1 c0' c1'
  change w.heap.size+2≤((w.alloc (.cells #[.bool q,.slice a rs.length cap] 39)).alloc (.cells #[.bool q',.slice a' rs'.length cap'] 39)).heap.size at hz
  rw[hW.out]at c0 c1 c0' c1' hz
  have ENTER:True:=trivial
  by_cases hqq:q=q'
  rotate_left
  · have n1:(q==q')=false:=beq_eq_false_iff_ne.2 hqq
    rw[n1,Bool.false_and]
    clear ENTER
    cases q<;>cases q'
    case false.false|true.true=>exact absurd rfl hqq
    all_goals
      clear hqq n1
      go_enter func34,ntmps34
      go_upto_region 1 with fail
      go_name_world w1 hw1
      obtain rfl:W=w1:=hW.out.symm.trans hw1
      clear hw1 hW
      go_wp2
      go_ret
      exact⟨rfl,hB0⟩
  · subst hqq
    rw[show(q==q)=true by simp,Bool.true_and]
    clear ENTER
    by_cases hlen:rs.length=rs'.length
    rotate_left
    · rw[zcQ hlen]
      have e0:((rs.length:Int)==rs'.length)=false:=by simp;omega
      clear hlen
      cases q
      all_goals
        go_enter func34,ntmps34
        go_upto_region 1 with fail
        go_name_world w1 hw1
        obtain rfl:W=w1:=hW.out.symm.trans hw1
        clear hw1 hW
        go_wp2
        go_ret
        exact⟨rfl,hB0⟩
    · have e0:((rs.length:Int)==rs'.length)=true:=by simp;omega
      have HL:=hide hlen
      clear hlen
      obtain⟨sb,hsb⟩:∃sb,Hid (sameL Rq.B rs rs'=sb):=⟨_,hide rfl⟩
      rw[hsb.out]
      have I:=hide (zay (fun x y=>Rq.B_iff (x:=x) (y:=y)) rs rs')
      cases q
      all_goals
        go_enter func34,ntmps34
        go_upto_region 1 with fail
        go_name_world w1 hw1
        obtain rfl:W=w1:=hW.out.symm.trans hw1
        clear hw1 hW
        go_wp2
        go_loopw [5] (fun iv wr'=>∃k:Nat,k≤rs.length∧iv=.int .i64 (k:Int)∧Hid (∀j (hj:j<rs.length) (hj':j<rs'.length),j<k→rs[j]=rs'[j])∧Below W.heap.size W wr') (fun iv _=>rs.length - (intOf iv).toNat)
        case atStart=>exact⟨0,by omega,rfl,hide (fun j _ _ hj=>absurd hj (by omega)),Below.refl _ _⟩
        case round=>
          clear e0
          rename ((rs.length:Int) !=(rs'.length:Int))=false=>hne0
          clear hne0
          obtain⟨k,hk,rfl,HM,hBr⟩:=hrel
          have hB:=hB0.trans (hBr.mono (by omega))
          have hzr:=Nat.le_trans hz hBr.size
          have e1:=(hBr.cell (p:=⟨w.heap.size,1,none⟩) (show w.heap.size<W.heap.size by omega)).trans c1
          have e1':=(hBr.cell (p:=⟨w.heap.size+1,1,none⟩) (show w.heap.size+1<W.heap.size by omega)).trans c1'
          by_cases hlt:k<rs.length
          · have k1:(k:Int)<rs.length:=by omega
            have hlt':k<rs'.length:=by have:=HL.out;omega
            have k1':(k:Int)<rs'.length:=by omega
            obtain⟨b,off,rfl,hb,hre⟩:=(h1.below hBr).elem k hlt
            have hre:wr.rangeAt b (off+k*19) rs[k].cells:=hre
            obtain⟨b',off',rfl,hb',hre'⟩:=(h1'.below hBr).elem k hlt'
            have hre':wr.rangeAt b' (off'+k*19) rs'[k].cells:=hre'
            obtain⟨r,hr⟩:∃r,Hid (rs[k]=r):=⟨_,hide rfl⟩
            obtain⟨r',hr'⟩:∃r',Hid (rs'[k]=r'):=⟨_,hide rfl⟩
            have hok:r.ok:=by rw[←hr.out];exact hall _ (List.getElem_mem hlt)
            have hok':r'.ok:=by rw[←hr'.out];exact hall' _ (List.getElem_mem hlt')
            rw[hr.out]at hre
            rw[hr'.out]at hre'
            have HM':Hid (r=r'→∀j (hj:j<rs.length) (hj':j<rs'.length),j<k+1→rs[j]=rs'[j]):=hide (fun hp j hj hj' hjk=>by
              by_cases e:j=k
              · subst e;rw[hr.out,hr'.out];exact hp
              · exact HM.out j hj hj' (by omega))
            have HN':Hid (r≠r'→sb=false):=hide (fun hp=>by
              cases hsbv:sb
              · rfl
              · have:rs=rs':=I.out.1 (hsb.out.trans hsbv)
                exact absurd (by rw[←hr.out,←hr'.out];subst this;rfl) hp)
            clear hr hr' HM
            have hiu:(prog.info? 81).map (·.size)=some r.cells.length:=by rw[show r.cells.length=19 from RqE.len r hok];kernel_rfl
            have hiu':(prog.info? 81).map (·.size)=some r'.cells.length:=by rw[show r'.cells.length=19 from RqE.len r' hok'];kernel_rfl
            have hne:=fun w0=>Rq.eq10 r r' hok hok' w0
            generalize r.cells=u at *
            generalize r'.cells=u' at *
            clear hok hok'
            by_cases hrr:r=r'
            · rw[Rq.B_iff.2 hrr]at hne
              have HT':=hide (HM'.out hrr)
              clear hrr HM' HN'
              go_upto_region 6 with fail
              obtain⟨w5,hw5⟩:∃w5,wr.drew=w5:=⟨_,rfl⟩
              have hBd:Below wr.heap.size wr w5:=by rw[←hw5];exact(Below.refl _ _).drew
              have hB5:=hB.trans (hBd.mono (by omega))
              have hre5:=za hre hBd hb
              have hre5':=za hre' hBd hb'
              have hb5:b<w5.heap.size:=Nat.lt_of_lt_of_le hb hBd.size
              have hb5':b'<w5.heap.size:=Nat.lt_of_lt_of_le hb' hBd.size
              have d1:=(hBd.cell (p:=⟨w.heap.size,1,none⟩) (show w.heap.size<wr.heap.size by omega)).trans e1
              have d1':=(hBd.cell (p:=⟨w.heap.size+1,1,none⟩) (show w.heap.size+1<wr.heap.size by omega)).trans e1'
              have hz5:=Nat.le_trans hzr hBd.size
              have HBX:Hid (Below wr.heap.size wr w5):=hide hBd
              refine zw (S:=(Below w5.heap.size w5)) 11 rfl (by kernel_rfl) ?_
              rw[hw5]
              clear hw5 hre hre' hb hb' hBd e1 e1' hB hzr
              have hS:(Below w5.heap.size w5) w5:=Below.refl _ _
              refine hs_a 0 27 hS ?_
              refine hs_t 1 28 (?_) rfl (by kernel_rfl) (by kernel_rfl) (by kernel_rfl) (by rfl) ?_ hS rfl ?_
              rotate_left
              · intro w' hw
                have:=(hw.cell (p:=⟨w.heap.size,1,none⟩) (show w.heap.size<w5.heap.size by omega)).trans d1
                go_simp
                try with_reducible rfl
              simp only[nz]
              refine hs_a 2 29 hS ?_
              refine hs_a 3 30 hS ?_
              refine hs_v 4 31 (.agg u.toArray) rfl (fun w' hw=>zu rfl rfl (run_loadVar_mid (P:=prog) w' b (off+k*19) 81 u _ (za hre5 hw hb5) underlying81 rfl hiu)) hS ?_
              refine hs_a 5 32 hS ?_
              refine hs_t 6 33 (?_) rfl (by kernel_rfl) (by kernel_rfl) (by kernel_rfl) (by rfl) ?_ hS rfl ?_
              rotate_left
              · intro w' hw
                have:=(hw.cell (p:=⟨w.heap.size+1,1,none⟩) (show w.heap.size+1<w5.heap.size by omega)).trans d1'
                go_simp
                try with_reducible rfl
              simp only[nz]
              refine hs_a 7 34 hS ?_
              refine hs_a 8 35 hS ?_
              refine hs_v 9 36 (.agg u'.toArray) rfl (fun w' hw=>zu rfl rfl (run_loadVar_mid (P:=prog) w' b' (off'+k*19) 81 u' _ (za hre5' hw hb5') underlying81 rfl hiu')) hS ?_
              refine hs_v 10 37 (.bool false) rfl (fun w' hw=>by have hc:=hne w';go_simp) hS ?_
              refine zv (by kernel_rfl) ?_
              go_wp2
              go_roundw
              case rel=>exact⟨k+1,by omega,by go_num,HT',hBr.trans (HBX.out.mono hBr.size)⟩
              case measure=>simp[intOf];omega
            · have hbf : Rq.B r r' = false := by
                cases hx:Rq.B r r'
                · rfl
                · exact absurd (Rq.B_iff.1 hx) hrr
              rw[hbf]at hne
              have HF':=HN'.out hrr
              clear hrr HM' HN' hbf hsb I
              go_upto_region 6 with fail
              obtain⟨w5,hw5⟩:∃w5,wr.drew=w5:=⟨_,rfl⟩
              have hBd:Below wr.heap.size wr w5:=by rw[←hw5];exact(Below.refl _ _).drew
              have hB5:=hB.trans (hBd.mono (by omega))
              have hre5:=za hre hBd hb
              have hre5':=za hre' hBd hb'
              have hb5:b<w5.heap.size:=Nat.lt_of_lt_of_le hb hBd.size
              have hb5':b'<w5.heap.size:=Nat.lt_of_lt_of_le hb' hBd.size
              have d1:=(hBd.cell (p:=⟨w.heap.size,1,none⟩) (show w.heap.size<wr.heap.size by omega)).trans e1
              have d1':=(hBd.cell (p:=⟨w.heap.size+1,1,none⟩) (show w.heap.size+1<wr.heap.size by omega)).trans e1'
              have hz5:=Nat.le_trans hzr hBd.size
              have HBX:Hid (Below wr.heap.size wr w5):=hide hBd
              refine zw (S:=(Below w5.heap.size w5)) 11 rfl (by kernel_rfl) ?_
              rw[hw5]
              clear hw5 hre hre' hb hb' hBd e1 e1' hB hzr
              have hS:(Below w5.heap.size w5) w5:=Below.refl _ _
              refine hs_a 0 27 hS ?_
              refine hs_t 1 28 (?_) rfl (by kernel_rfl) (by kernel_rfl) (by kernel_rfl) (by rfl) ?_ hS rfl ?_
              rotate_left
              · intro w' hw
                have:=(hw.cell (p:=⟨w.heap.size,1,none⟩) (show w.heap.size<w5.heap.size by omega)).trans d1
                go_simp
                try with_reducible rfl
              simp only[nz]
              refine hs_a 2 29 hS ?_
              refine hs_a 3 30 hS ?_
              refine hs_v 4 31 (.agg u.toArray) rfl (fun w' hw=>zu rfl rfl (run_loadVar_mid (P:=prog) w' b (off+k*19) 81 u _ (za hre5 hw hb5) underlying81 rfl hiu)) hS ?_
              refine hs_a 5 32 hS ?_
              refine hs_t 6 33 (?_) rfl (by kernel_rfl) (by kernel_rfl) (by kernel_rfl) (by rfl) ?_ hS rfl ?_
              rotate_left
              · intro w' hw
                have:=(hw.cell (p:=⟨w.heap.size+1,1,none⟩) (show w.heap.size+1<w5.heap.size by omega)).trans d1'
                go_simp
                try with_reducible rfl
              simp only[nz]
              refine hs_a 7 34 hS ?_
              refine hs_a 8 35 hS ?_
              refine hs_v 9 36 (.agg u'.toArray) rfl (fun w' hw=>zu rfl rfl (run_loadVar_mid (P:=prog) w' b' (off'+k*19) 81 u' _ (za hre5' hw hb5') underlying81 rfl hiu')) hS ?_
              refine hs_v 10 37 (.bool true) rfl (fun w' hw=>by have hc:=hne w';go_simp) hS ?_
              refine zv (by kernel_rfl) ?_
              go_wp2
              go_ret
              exact⟨by rw[HF'];rfl,hB5⟩
          · have k1:¬(k:Int)<rs.length:=by omega
            have HE:Hid (sb=true):=hide (by
              rw[←hsb.out]
              exact I.out.2 (List.ext_getElem HL.out (fun j hj hj'=>HM.out j hj hj' (by omega))))
            clear HM hsb I
            go_wp2
            go_ret
            exact⟨by rw[HE.out];rfl,hB⟩
end Go.Proofs.YtcbpbkefggekmaaGreatDoor
