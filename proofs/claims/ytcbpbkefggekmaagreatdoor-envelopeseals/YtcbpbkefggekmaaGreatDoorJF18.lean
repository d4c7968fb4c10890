/- EnvelopeSeals: any body is sealed, any envelope is opened as the document says; without any condition (the card ties the tables starts and roots of package dige -/
import Derived.Test.YtcbpbkefggekmaaGreatDoorJF0
import Derived.Test.YtcbpbkefggekmaaGreatDoorJF17
import Derived.Test.YtcbpbkefggekmaaGreatDoorJF11
import Derived.Test.YtcbpbkefggekmaaGreatDoorJF5
import Derived.Test.YtcbpbkefggekmaaGreatDoorJF16
import Derived.Test.YtcbpbkefggekmaaGreatDoorJF7
import Derived.Test.YtcbpbkefggekmaaGreatDoorJF8
import Derived.Deep.Cut
import Derived.Deep.DeepCutAuto
import Derived.Deep.Slices
import Derived.Test.YtcbpbkefggekmaaGreatDoorRows
import Derived.ProofKit
import Derived.OpenShut
import Derived.ShutString
import Derived.ChangeOld
import Derived.Below
import Derived.Lib.LaidTab
import Derived.Test.YtcbpbkefggekmaaGreatDoorJF3
import Derived.Test.YtcbpbkefggekmaaGreatDoorCards
import Derived.Test.YtcbpbkefggekmaaGreatDoorTie
import Derived.LaidMore
import Derived.Stop.Joined
set_option maxHeartbeats 4000000
set_option maxRecDepth 100000
open Go.Proofs.Tryz
namespace Go.Proofs.YtcbpbkefggekmaaGreatDoor
open Go.RowKit
open Sha Tal
set_option linter.unusedVariables false
set_option linter.unusedSimpArgs false
theorem zd6 {P:Program} {o:Oper} {a:Act} {w:World} {op:BinOp} {t t2:TypeId} {x y:Operand} {u v:Array Value} {r:Value} (ho:o.op=.binOp op t x y t2) (hx:a.eval x=.agg u) (hy:a.eval y=.agg v) (hm:P.eqGuardType P.depth t=false) (hr:(binOp op t (.agg u) (.agg v)).run P w=.ok r w):(execOp a.eval o).run P w=.ok (.value r) w:=by
 unfold execOp
 simp only[ho,hx,hy,Sem.run_bind,run_eqGuard_agg w op t x y u v hm,Result.andThen_ok,hr,Sem.run_pure]
open Qs (KeysAt signOf checkOf zY)
theorem zmN (x y:Ev) (hx:x.ok) (hy:y.ok) (w:World):(binOp .neq 25 (.agg x.cells.toArray) (.agg y.cells.toArray)).run prog w=.ok (.bool (!(Ev.B x y))) w:=by
 rw[run_neq_struct,Ev.eq10 x y hx hy w];rfl
theorem zmO (x y:Ev) (hx:x.ok) (hy:y.ok) (w:World):(binOp .eql 25 (.agg x.cells.toArray) (.agg y.cells.toArray)).run prog w=.ok (.bool (Ev.B x y)) w:=by
 rw[run_eql_struct,Ev.eq10 x y hx hy w];rfl
def openO (r:List Int ×Int) (N:Int) (x:Ev):Mp ×Int:=if x.n<0∨N≤x.n∨checkOf r x.t=false then(Mp.none,140)else decS (strL x.s)
def openP (ds:List (List Int)) (N:Int) (x:Ev):Mp ×Int:=if ds=[]then(Mp.none,1)else openO (signOf ds x.n x.s) N x
def OpenA (R:Mp ×Int) (w:World) (en:Ending) (w':World):Prop:=∃m:Mg,en=.returned (.tuple #[.agg m.ms.cells.toArray,.int .i64 R.2])∧m.pure=R.1∧m.ok∧m.At w'∧Below w.heap.size w w'
theorem zfo {r:List Int ×Int} {n:Int} {sb:ByteArray} (h1:r.1.length=16) (h2:∀z∈r.1,0≤z∧z<256) (h3:sb.size≤maxLen) (h4:-9223372036854775808≤n) (h5:n≤9223372036854775807):(sealO r n sb).1.ok:=by
 unfold sealO
 split
 ·exact⟨h1,h2,h3,h4,h5⟩
 ·exact zlD
theorem ziW {r:List Int ×Int} {x:Ev} (h:checkOf r x.t=true):sealO r x.n x.s=(x,0):=by
 unfold checkOf at h
 rw[Bool.and_eq_true]at h
 have h1:r.2=0:=by simpa using h.1
 have h2:r.1=x.t:=by simpa using h.2
 unfold sealO
 rw[if_pos h1,h2]
theorem ziX {r:List Int ×Int} {x:Ev} (h:checkOf r x.t=false) (h0:(sealO r x.n x.s).2=0):Ev.B (sealO r x.n x.s).1 x=false:=by
 have hr:r.2=0:=by
  unfold sealO at h0
  split at h0
  ·assumption
  ·exact h0
 apply Bool.eq_false_iff.2
 intro hB
 have e:=Ev.B_iff.1 hB
 unfold sealO at e
 rw[if_pos hr]at e
 have e2:r.1=x.t:=congrArg Ev.t e
 unfold checkOf at h
 rw[hr,e2]at h
 simp at h
theorem zg9 (p:Option Addr) (ds:List (List Int)) (N:Int) (x:Ev) (w:World) (hG:Glob w) (hk:KeysAt w p ds) (hx:x.ok) (hs:x.s.size≤40000):Calls prog 12 #[.pointer p,.int .i64 N,.agg x.cells.toArray] w (OpenA (openP ds N x) w):=by
 unfold OpenA
 obtain⟨zc,hzc,hzl,hz1,hzr,hb0⟩:∃z:List Value,Hid (z=Mg.none.ms.cells)∧z.length=119∧(∀v∈z,v.oneCell'=true)∧(∀w:World,(zeroValue 52).run prog w=.ok (.agg z.toArray) w)∧∀w:World,(Instr.build 52 #[]).run prog w=.ok (.agg z.toArray) w:=⟨_,hide rfl,Mg.none_ok.ms.len,Mg.none_ok.ms.one,zeroM,zc9⟩
 have hiz:(prog.info? 52).map (·.size)=some zc.length:=by rw[hzl];exact iszM
 have hxl:x.cells.length=18:=EvE.len x hx
 have hx1:∀v∈x.cells,v.oneCell'=true:=EvE.one x
 have ix:(prog.info? 25).map (·.size)=some x.cells.length:=by rw[hxl];exact za2
 have e0:x.cells[0]? =some (.int .i64 x.n):=rfl
 have e1:x.cells[1]? =some (.string x.s):=rfl
 obtain⟨ez,hez⟩:∃z:List Value,(∀w:World,(zeroValue 25).run prog w=.ok (.agg z.toArray) w)∧z.length=18:=⟨evZ.cells,zct,rfl⟩
 obtain⟨hez,hel⟩:=hez
 have cS0:=fun w0 g k=>zd7 p ds x.n x.s w0 g k hs
 have cD0:=fun w0=>zec x.s hs w0
 have yok:(sealO (signOf ds x.n x.s) x.n x.s).1.ok:=zfo (Qs.zbw _ _ _) (Qs.zdA _ _ _) hx.sl hx.nl hx.nh
 have hyes:=@ziW (signOf ds x.n x.s) x
 have hno:=@ziX (signOf ds x.n x.s) x
 have hne0:=fun w0=>zmN _ x yok hx w0
 have HO:Hid ((ds=[]→openP ds N x=(Mp.none,1))∧(ds≠[]→(x.n<0∨N≤x.n∨checkOf (signOf ds x.n x.s) x.t=false)→openP ds N x=(Mp.none,140))∧(ds≠[]→¬x.n<0→¬N≤x.n→checkOf (signOf ds x.n x.s) x.t=true→openP ds N x=decS (strL x.s))):=by
  refine hide ⟨fun h=>?_,fun h k=>?_,fun h k1 k2 k3=>?_⟩
  ·unfold openP;rw[if_pos h]
  ·unfold openP openO;rw[if_neg h,if_pos k]
  ·unfold openP openO;rw[if_neg h,if_neg (fun k=>by rcases k with k|k|k;exact k1 k;exact k2 k;rw[k3]at k;cases k)]
 obtain⟨G,hG0⟩:∃G,Hid (openP ds N x=G):=⟨_,hide rfl⟩
 rw[hG0.out]at HO ⊢
 obtain⟨DD,hDD⟩:∃D,Hid (decS (strL x.s)=D):=⟨_,hide rfl⟩
 rw[hDD.out]at HO
 simp only[hDD.out]at cD0
 obtain⟨ck,hck⟩:∃c,Hid (checkOf (signOf ds x.n x.s) x.t=c):=⟨_,hide rfl⟩
 rw[hck.out]at HO hyes hno
 obtain⟨⟨y,ye⟩,hy⟩:∃r,Hid (sealO (signOf ds x.n x.s) x.n x.s=r):=⟨_,hide rfl⟩
 rw[hy.out]at hyes hno yok
 simp only[hy.out]at cS0 hne0
 have hno:ck=false→ye=0→Ev.B y x=false:=hno
 have hyes:ck=true→(y,ye)=(x,0):=hyes
 have HY:=hide hyes
 have HN:=hide hno
 have hyl:y.cells.length=18:=EvE.len y yok
 have hy1:∀v∈y.cells,v.oneCell'=true:=EvE.one y
 have iy:(prog.info? 25).map (·.size)=some y.cells.length:=by rw[hyl];exact za2
 obtain⟨bB,hbB⟩:∃b,Hid (Ev.B y x=b):=⟨_,hide rfl⟩
 simp only[hbB.out]at hne0
 obtain⟨xq,hxq⟩:∃q,Hid (x.cells=q):=⟨_,hide rfl⟩
 obtain⟨yq,hyq⟩:∃q,Hid (y.cells=q):=⟨_,hide rfl⟩
 simp only[hxq.out,hyq.out]at hxl hx1 ix e0 e1 hyl hy1 iy cS0 hne0 ⊢
 obtain⟨xn,hxn⟩:∃n,Hid (x.n=n):=⟨_,hide rfl⟩
 obtain⟨xs,hxs⟩:∃n,Hid (x.s=n):=⟨_,hide rfl⟩
 rw[hxn.out]at e0 HO
 rw[hxs.out]at e1
 simp only[hxn.out,hxs.out]at cS0 cD0
 obtain⟨L,hL⟩:∃L:Int,(ds.length:Int)=L:=⟨_,rfl⟩
 have HD:Hid ((L=0→ds=[])∧(L≠0→ds≠[])):=hide ⟨fun h=>List.length_eq_zero_iff.1 (by omega),fun h k=>h (by rw[←hL,k];rfl)⟩
 obtain⟨hBk,rX,sK⟩:=zq w xq 25
 have eA:(w.alloc (.cells xq.toArray 25)).heap.size=w.heap.size+1:=by simp
 clear hyes hno hs hx yok hy hck hDD hG0
 go_enter func12,ntmps12
 go_upto_region 0 with fail
 refine pl_b ?_
 refine pl_r 5 (.pointer (some ⟨w.heap.size,0,none⟩)) (w.alloc (.cells xq.toArray 25)) (zaC rfl rfl) ?_
 refine pl_r 6 (.pointer (some ⟨(w.alloc (.cells xq.toArray 25)).heap.size,0,none⟩)) ((w.alloc (.cells xq.toArray 25)).alloc (.cells zc.toArray 52)) (zo rfl (hzr _)) ?_
 refine pl_a 7 ?_
 refine za ?_
 obtain⟨hB1,-,hs1⟩:=zq (w.alloc (.cells xq.toArray 25)) zc 52
 have tT:=zi (w.alloc (.cells xq.toArray 25)) zc.toArray 52 (n:=119) (by simp[hzl])
 have B1:=hBk.trans (hB1.mono hBk.size)
 have rX:=zd rX hB1 (by omega)
 obtain⟨A,hA⟩:∃A,(w.alloc (.cells xq.toArray 25)).heap.size=A:=⟨_,rfl⟩
 rw[hA]at hB1 hs1 tT eA
 simp only[hA]
 have hAw:w.heap.size≤A:=by omega
 have hwA:w.heap.size<A:=by omega
 obtain⟨W1,hW1⟩:∃W,(w.alloc (.cells xq.toArray 25)).alloc (.cells zc.toArray 52)=W:=⟨_,rfl⟩
 rw[hW1]at hB1 hs1 tT B1 rX ⊢
 have k1:=hk.below B1
 have g1:=hG.below B1
 have c0:W1.cell? ⟨w.heap.size,0,none⟩=some (.int .i64 xn):=rX 0 _ e0
 have c1:W1.cell? ⟨w.heap.size,1,none⟩=some (.string xs):=rX 1 _ e1
 clear hW1 hzr hA eA sK hBk hB1 hG hk
 go_upto_region 1 with fail
 by_cases hL0:L=0
 ·have hR:G=(Mp.none,1):=HO.out.1 (HD.out.1 hL0)
  subst hL0
  refine pl_b ?_
  refine pl_a 11 ?_
  refine pl_c 12 ?_
  refine(Qs.zbn p ds W1 k1).mono ?_
  rintro _ w2 ⟨hv,hw2⟩
  obtain rfl:=hw2.symm
  rw[hL]at hv
  subst hv
  refine⟨_,rfl,?_⟩
  simp only[nz]
  refine pl_v 13 (.bool true) (by go_simp<;>(try simp[*])) ?_
  refine pl_a 10 ?_
  refine za ?_
  clear HO HD cS0 cD0 HY HN
  go_upto_region 2 with fail
  refine pl_b ?_
  refine pl_v 14 (.agg zc.toArray) (zI (parts:=[]) rfl rfl (hb0 _)) ?_
  refine pl_s (W1.setCells A 0 zc) (zf (cs:=zc.toArray) rfl rfl rfl (by simpa [hzl]using tT) (by simpa using hiz) (zh hz1)) ?_
  refine pl_a 7 ?_
  refine za ?_
  have hrs:=run_loadVar_mid (P:=prog) (W1.setCells A 0 zc) A 0 52 zc _ (World.rangeAt_setCells_same W1 A 0 zc (by rw[hzl];exact tT)) underlying52 rfl hiz
  have HF:Hid (∃g:Mg,Ending.returned (.tuple #[.agg zc.toArray,.int .i64 1])=.returned (.tuple #[.agg g.ms.cells.toArray,.int .i64 G.2])∧g.pure=G.1∧g.ok∧g.At (W1.setCells A 0 zc)∧Below w.heap.size w (W1.setCells A 0 zc)):=hide ⟨Mg.none,by rw[hR,hzc.out],by rw[hR];rfl,Mg.none_ok,Mg.none_at _,ze hAw _ _ _ B1⟩
  clear tT B1 hR c0 c1 rX
  go_wp2_with fail
  refine bodyPost_ret (zac rfl _ _ _ rfl hrs) rfl ?_
  exact HF.out
 ·have hd:=HD.out.2 hL0
  have H1:=hide (HO.out.2.1 hd)
  have H2:=hide (HO.out.2.2 hd)
  clear HO HD hd
  refine pl_b ?_
  refine pl_a 11 ?_
  refine pl_c 12 ?_
  refine(Qs.zbn p ds W1 k1).mono ?_
  rintro _ w2 ⟨hv,hw2⟩
  obtain rfl:=hw2.symm
  rw[hL]at hv
  subst hv
  refine⟨_,rfl,?_⟩
  simp only[nz]
  refine pl_v 13 (.bool false) (by go_simp<;>(try simp[*])) ?_
  refine pl_a 10 ?_
  refine za ?_
  clear hL0
  go_upto_region 3 with fail
  by_cases h0:xn<0
  ·have hR:G=(Mp.none,140):=H1.out (.inl h0)
   clear H1 H2 cS0 cD0 HY HN
   refine pl_b ?_
   refine pl_v 16 (.pointer (some ⟨w.heap.size,0,none⟩)) (by go_simp<;>(try simp[*])) ?_
   refine pl_v 17 (.int .i64 xn) (zg rfl rfl c0 underlying3 rfl) ?_
   refine pl_v 18 (.bool true) (by go_simp<;>(try simp[*])) ?_
   refine pl_a 19 ?_
   refine pl_k 20 ?_
   refine pl_k 21 ?_
   refine pl_k 22 ?_
   refine pl_k 23 ?_
   refine pl_a 24 ?_
   refine pl_a 15 ?_
   refine za ?_
   clear h0
   go_upto_region 4 with fail
   refine pl_b ?_
   refine pl_v 25 (.agg zc.toArray) (zI (parts:=[]) rfl rfl (hb0 _)) ?_
   refine pl_s (W1.setCells A 0 zc) (zf (cs:=zc.toArray) rfl rfl rfl (by simpa [hzl]using tT) (by simpa using hiz) (zh hz1)) ?_
   refine pl_a 7 ?_
   refine za ?_
   have hrs:=run_loadVar_mid (P:=prog) (W1.setCells A 0 zc) A 0 52 zc _ (World.rangeAt_setCells_same W1 A 0 zc (by rw[hzl];exact tT)) underlying52 rfl hiz
   have HF:Hid (∃g:Mg,Ending.returned (.tuple #[.agg zc.toArray,.int .i64 140])=.returned (.tuple #[.agg g.ms.cells.toArray,.int .i64 G.2])∧g.pure=G.1∧g.ok∧g.At (W1.setCells A 0 zc)∧Below w.heap.size w (W1.setCells A 0 zc)):=hide ⟨Mg.none,by rw[hR,hzc.out],by rw[hR];rfl,Mg.none_ok,Mg.none_at _,ze hAw _ _ _ B1⟩
   clear tT B1 hR c0 c1 rX
   go_wp2_with fail
   refine bodyPost_ret (zac rfl _ _ _ rfl hrs) rfl ?_
   exact HF.out
  ·by_cases h1:N≤xn
   ·have hR:G=(Mp.none,140):=H1.out (.inr (.inl h1))
    clear H1 H2 cS0 cD0 HY HN
    refine pl_b ?_
    refine pl_v 16 (.pointer (some ⟨w.heap.size,0,none⟩)) (by go_simp<;>(try simp[*])) ?_
    refine pl_v 17 (.int .i64 xn) (zg rfl rfl c0 underlying3 rfl) ?_
    refine pl_v 18 (.bool false) (by go_simp<;>(try simp[*])) ?_
    refine pl_a 19 ?_
    refine pl_v 20 (.pointer (some ⟨w.heap.size,0,none⟩)) (by go_simp<;>(try simp[*])) ?_
    refine pl_v 21 (.int .i64 xn) (zg rfl rfl c0 underlying3 rfl) ?_
    refine pl_a 22 ?_
    refine pl_v 23 (.bool true) (by go_simp<;>(try simp[*])) ?_
    refine pl_a 24 ?_
    refine pl_a 15 ?_
    refine za ?_
    clear h0 h1
    go_upto_region 4 with fail
    refine pl_b ?_
    refine pl_v 25 (.agg zc.toArray) (zI (parts:=[]) rfl rfl (hb0 _)) ?_
    refine pl_s (W1.setCells A 0 zc) (zf (cs:=zc.toArray) rfl rfl rfl (by simpa [hzl]using tT) (by simpa using hiz) (zh hz1)) ?_
    refine pl_a 7 ?_
    refine za ?_
    have hrs:=run_loadVar_mid (P:=prog) (W1.setCells A 0 zc) A 0 52 zc _ (World.rangeAt_setCells_same W1 A 0 zc (by rw[hzl];exact tT)) underlying52 rfl hiz
    have HF:Hid (∃g:Mg,Ending.returned (.tuple #[.agg zc.toArray,.int .i64 140])=.returned (.tuple #[.agg g.ms.cells.toArray,.int .i64 G.2])∧g.pure=G.1∧g.ok∧g.At (W1.setCells A 0 zc)∧Below w.heap.size w (W1.setCells A 0 zc)):=hide ⟨Mg.none,by rw[hR,hzc.out],by rw[hR];rfl,Mg.none_ok,Mg.none_at _,ze hAw _ _ _ B1⟩
    clear tT B1 hR c0 c1 rX
    go_wp2_with fail
    refine bodyPost_ret (zac rfl _ _ _ rfl hrs) rfl ?_
    exact HF.out
   ·have H3:=hide (H2.out h0 h1)
    have H4:=hide (fun h=>H1.out (.inr (.inr h)))
    refine pl_b ?_
    refine pl_v 16 (.pointer (some ⟨w.heap.size,0,none⟩)) (by go_simp<;>(try simp[*])) ?_
    refine pl_v 17 (.int .i64 xn) (zg rfl rfl c0 underlying3 rfl) ?_
    refine pl_v 18 (.bool false) (by go_simp<;>(try simp[*])) ?_
    refine pl_a 19 ?_
    refine pl_v 20 (.pointer (some ⟨w.heap.size,0,none⟩)) (by go_simp<;>(try simp[*])) ?_
    refine pl_v 21 (.int .i64 xn) (zg rfl rfl c0 underlying3 rfl) ?_
    refine pl_a 22 ?_
    refine pl_v 23 (.bool false) (by go_simp<;>(try simp[*])) ?_
    refine pl_a 24 ?_
    refine pl_a 15 ?_
    refine za ?_
    clear h0 h1 H1 H2
    go_upto_region 5 with fail
    have cS:=cS0 W1 g1 k1
    clear cS0
    refine pl_b ?_
    refine pl_a 27 ?_
    refine pl_v 28 (.pointer (some ⟨w.heap.size,0,none⟩)) (by go_simp<;>(try simp[*])) ?_
    refine pl_v 29 (.int .i64 xn) (zg rfl rfl c0 underlying3 rfl) ?_
    refine pl_v 30 (.pointer (some ⟨w.heap.size,1,none⟩)) (by go_simp<;>(try simp[*])) ?_
    refine pl_v 31 (.string xs) (zg rfl rfl c1 underlying9 rfl) ?_
    refine pl_c 32 ?_
    refine(cS).mono ?_
    rintro _ w2 ⟨rfl,hb2⟩
    refine⟨_,rfl,?_⟩
    simp only[nz]
    refine pl_a 26 ?_
    refine pl_a 33 ?_
    refine pl_a 34 ?_
    refine pl_r 8 (.pointer (some ⟨w2.heap.size,0,none⟩)) (w2.alloc (.cells ez.toArray 25)) (zo rfl (hez _)) ?_
    refine pl_s ((w2.alloc (.cells ez.toArray 25)).setCells w2.heap.size 0 yq) (zf (cs:=yq.toArray) rfl rfl rfl (zi _ _ _ (by simp[hel,hyl])) (by simpa using iy) (zh hy1)) ?_
    refine pl_a 9 ?_
    refine za ?_
    obtain⟨rY,hF,hF3,-⟩:=zt w2 ez.toArray 25 yq (by simp[hel,hyl])
    have B2:=B1.trans (hb2.mono B1.size)
    have s2:=Nat.lt_of_lt_of_le hs1 hb2.size
    have tT:=zj (zj tT hb2 hs1) hF s2
    have rX:=zd (zd rX hb2 (by omega)) hF (by omega)
    have s3:=Nat.lt_of_lt_of_le s2 hF.size
    have B3:=B2.trans (hF.mono B2.size)
    obtain⟨D,hD⟩:∃D,w2.heap.size=D:=⟨_,rfl⟩
    rw[hD]at rY B3 tT rX s3
    simp only[hD]
    obtain⟨w3,hw3⟩:∃W,(w2.alloc (.cells ez.toArray 25)).setCells D 0 yq=W:=⟨_,rfl⟩
    rw[hw3]at rY B3 tT rX s3 ⊢
    clear hw3 hD hF hF3 hb2 B2 cS k1 g1 B1 hs1 c0 c1 s2
    have c1:w3.cell? ⟨w.heap.size,1,none⟩=some (.string xs):=rX 1 _ e1
    go_upto_region 6 with fail
    by_cases hc:ck=true
    ·have hR:G=DD:=H3.out hc
     have e:=HY.out hc
     have e1':y=x:=congrArg Prod.fst e
     have e2':ye=0:=congrArg Prod.snd e
     have hb:bB=false∨bB=true:=by cases bB;exact .inl rfl;exact .inr rfl
     have hbt:bB=true:=by rw[←hbB.out,e1'];exact Ev.B_iff.2 rfl
     clear e HY HN H3 H4 hc hb e1'
     subst hbt
     subst e2'
     refine pl_b ?_
     refine pl_a 35 ?_
     refine pl_v 36 (.bool false) (by go_simp<;>(try simp[*])) ?_
     refine pl_a 37 ?_
     refine pl_v 38 (.agg yq.toArray) (zp rfl rfl rY underlying25 rfl iy) ?_
     refine pl_v 39 (.agg xq.toArray) (zp rfl rfl rX underlying25 rfl ix) ?_
     refine pl_v 40 (.bool false) (zd6 rfl rfl rfl (by kernel_rfl) (hne0 _)) ?_
     refine pl_a 41 ?_
     refine za ?_
     go_upto_region 8 with fail
     refine pl_b ?_
     refine pl_v 43 (.pointer (some ⟨w.heap.size,1,none⟩)) (by go_simp<;>(try simp[*])) ?_
     refine pl_v 44 (.string xs) (zg rfl rfl c1 underlying9 rfl) ?_
     refine pl_c 45 ?_
     refine(cD0 w3).mono ?_
     rintro _ w4 ⟨m,rfl,hmp,hmo,hmA,hmB,hb4⟩
     have hql:=hmo.ms.len
     have hq1:=hmo.ms.one
     have hiq:(prog.info? 52).map (·.size)=some m.ms.cells.length:=by rw[hql];exact iszM
     obtain⟨q,hqq⟩:∃q,Hid (m.ms.cells=q):=⟨_,hide rfl⟩
     simp only[hqq.out]at hql hq1 hiq ⊢
     have tT:=zj tT hb4 s3
     have B4:=B3.trans (hb4.mono B3.size)
     have A9:=fun vs=>Mg.At.put (o:=0) (vs:=vs) hmA (hmB.mono (fun b (hb:w3.heap.size≤b)=>show A<b by omega))
     have HM:=hide (show m.pure=DD.1∧m.ok from⟨hmp,hmo⟩)
     clear hmp hmo hmA hmB hb4 B3 s3 c1 rX rY cD0
     refine⟨_,rfl,?_⟩
     simp only[nz]
     refine pl_a 46 ?_
     refine pl_a 47 ?_
     refine pl_s (w4.setCells A 0 q) (zf (cs:=q.toArray) rfl rfl rfl (by simpa [hql]using tT) (by simpa using hiq) (zh hq1)) ?_
     refine pl_a 7 ?_
     refine za ?_
     have hrs:=run_loadVar_mid (P:=prog) (w4.setCells A 0 q) A 0 52 q _ (World.rangeAt_setCells_same w4 A 0 q (by rw[hql];exact tT)) underlying52 rfl hiq
     have HF:Hid (∃g:Mg,Ending.returned (.tuple #[.agg q.toArray,.int .i64 DD.2])=.returned (.tuple #[.agg g.ms.cells.toArray,.int .i64 G.2])∧g.pure=G.1∧g.ok∧g.At (w4.setCells A 0 q)∧Below w.heap.size w (w4.setCells A 0 q)):=hide ⟨m,by rw[hqq.out,hR],by rw[hR];exact HM.out.1,HM.out.2,A9 q,ze hAw _ _ _ B4⟩
     clear tT B4 hR HM A9 hqq
     go_wp2_with fail
     refine bodyPost_ret (zac rfl _ _ _ rfl hrs) rfl ?_
     exact HF.out
    ·have hc:ck=false:=by simpa using hc
     have hR:G=(Mp.none,140):=H4.out hc
     by_cases hye:ye=0
     ·have hbf:bB=false:=by rw[←hbB.out];exact HN.out hc hye
      clear HY HN H3 H4 hc
      subst hbf
      subst hye
      refine pl_b ?_
      refine pl_a 35 ?_
      refine pl_v 36 (.bool false) (by go_simp<;>(try simp[*])) ?_
      refine pl_a 37 ?_
      refine pl_v 38 (.agg yq.toArray) (zp rfl rfl rY underlying25 rfl iy) ?_
      refine pl_v 39 (.agg xq.toArray) (zp rfl rfl rX underlying25 rfl ix) ?_
      refine pl_v 40 (.bool true) (zd6 rfl rfl rfl (by kernel_rfl) (hne0 _)) ?_
      refine pl_a 41 ?_
      refine za ?_
      go_upto_region 7 with fail
      refine pl_b ?_
      refine pl_v 42 (.agg zc.toArray) (zI (parts:=[]) rfl rfl (hb0 _)) ?_
      refine pl_s (w3.setCells A 0 zc) (zf (cs:=zc.toArray) rfl rfl rfl (by simpa [hzl]using tT) (by simpa using hiz) (zh hz1)) ?_
      refine pl_a 7 ?_
      refine za ?_
      have hrs:=run_loadVar_mid (P:=prog) (w3.setCells A 0 zc) A 0 52 zc _ (World.rangeAt_setCells_same w3 A 0 zc (by rw[hzl];exact tT)) underlying52 rfl hiz
      have HF:Hid (∃g:Mg,Ending.returned (.tuple #[.agg zc.toArray,.int .i64 140])=.returned (.tuple #[.agg g.ms.cells.toArray,.int .i64 G.2])∧g.pure=G.1∧g.ok∧g.At (w3.setCells A 0 zc)∧Below w.heap.size w (w3.setCells A 0 zc)):=hide ⟨Mg.none,by rw[hR,hzc.out],by rw[hR];rfl,Mg.none_ok,Mg.none_at _,ze hAw _ _ _ B3⟩
      clear tT B3 hR c1 rX rY
      go_wp2_with fail
      refine bodyPost_ret (zac rfl _ _ _ rfl hrs) rfl ?_
      exact HF.out
     ·have hfb:(ye !=0)=true:=by simpa using hye
      clear HY HN H3 H4 hc
      refine pl_b ?_
      refine pl_a 35 ?_
      refine pl_v 36 (.bool true) (by go_simp<;>(try simp[*])) ?_
      refine pl_a 37 ?_
      refine pl_k 38 ?_
      refine pl_k 39 ?_
      refine pl_k 40 ?_
      refine pl_a 41 ?_
      refine za ?_
      clear hfb hye
      go_upto_region 7 with fail
      refine pl_b ?_
      refine pl_v 42 (.agg zc.toArray) (zI (parts:=[]) rfl rfl (hb0 _)) ?_
      refine pl_s (w3.setCells A 0 zc) (zf (cs:=zc.toArray) rfl rfl rfl (by simpa [hzl]using tT) (by simpa using hiz) (zh hz1)) ?_
      refine pl_a 7 ?_
      refine za ?_
      have hrs:=run_loadVar_mid (P:=prog) (w3.setCells A 0 zc) A 0 52 zc _ (World.rangeAt_setCells_same w3 A 0 zc (by rw[hzl];exact tT)) underlying52 rfl hiz
      have HF:Hid (∃g:Mg,Ending.returned (.tuple #[.agg zc.toArray,.int .i64 140])=.returned (.tuple #[.agg g.ms.cells.toArray,.int .i64 G.2])∧g.pure=G.1∧g.ok∧g.At (w3.setCells A 0 zc)∧Below w.heap.size w (w3.setCells A 0 zc)):=hide ⟨Mg.none,by rw[hR,hzc.out],by rw[hR];rfl,Mg.none_ok,Mg.none_at _,ze hAw _ _ _ B3⟩
      clear tT B3 hR c1 rX rY
      go_wp2_with fail
      refine bodyPost_ret (zac rfl _ _ _ rfl hrs) rfl ?_
      exact HF.out
theorem zh0 (N:Int) (x:Ev) (w:World) (hx:x.ok) (hs:x.s.size≤40000):Calls prog 13 #[.agg Rk.rkL.toArray,.int .i64 N,.agg x.cells.toArray] w (OpenA (openO (signOf (Qs.keysOf Rk.seedR 72) x.n x.s) N x) w):=by
 unfold OpenA
 obtain⟨zc,hzc,hzl,hz1,hzr,hb0⟩:∃z:List Value,Hid (z=Mg.none.ms.cells)∧z.length=119∧(∀v∈z,v.oneCell'=true)∧(∀w:World,(zeroValue 52).run prog w=.ok (.agg z.toArray) w)∧∀w:World,(Instr.build 52 #[]).run prog w=.ok (.agg z.toArray) w:=⟨_,hide rfl,Mg.none_ok.ms.len,Mg.none_ok.ms.one,zeroM,zc9⟩
 have hiz:(prog.info? 52).map (·.size)=some zc.length:=by rw[hzl];exact iszM
 have hxl:x.cells.length=18:=EvE.len x hx
 have hx1:∀v∈x.cells,v.oneCell'=true:=EvE.one x
 have ix:(prog.info? 25).map (·.size)=some x.cells.length:=by rw[hxl];exact za2
 have e0:x.cells[0]? =some (.int .i64 x.n):=rfl
 have e1:x.cells[1]? =some (.string x.s):=rfl
 have e2:∀j v,(v8 x.t)[j]? =some v→x.cells[2+j]? =some v:=fun j v h=>by
  show(Value.int .i64 x.n::.string x.s::v8 x.t)[2+j]? =some v
  rw[Nat.add_comm 2 j]
  exact h
 have it16:(prog.info? 23).map (·.size)=some (v8 x.t).length:=by rw[v8_length,hx.tl];exact iszT
 have cD0:=fun w0=>zh3 x.s hs w0
 rw[←zl4 (strL x.s)]at cD0
 have cC0:=fun w0=>Qs.zjH Rk.seedR 72 x.n x.s x.t w0 (by decide) (by decide) (by omega) hx.tl
 rw[Qs.zfg Rk.seedR 72 (by decide) x.n x.s]
 have e72:((72:Nat):Int)=72:=rfl
 rw[e72]
 have cC0:∀w0,Calls prog 31 #[.agg Rk.rkL.toArray,.int .i64 x.n,.string x.s,.agg (v8 x.t).toArray] w0 fun e w'=>e=.returned (.bool (checkOf (zY Rk.seedR 72 x.n x.s) x.t))∧Below w0.heap.size w0 w':=cC0
 have ik:(prog.info? 29).map (·.size)=some Rk.rkL.length:=by kernel_rfl
 obtain⟨kq,hkq⟩:∃k,Hid (Rk.rkL=k):=⟨_,hide rfl⟩
 rw[hkq.out]at ik ⊢
 simp only[hkq.out]at cC0
 have HO:Hid ((x.n<0∨N≤x.n∨checkOf (zY Rk.seedR 72 x.n x.s) x.t=false→openO (zY Rk.seedR 72 x.n x.s) N x=(Mp.none,140))∧(¬x.n<0→¬N≤x.n→checkOf (zY Rk.seedR 72 x.n x.s) x.t=true→openO (zY Rk.seedR 72 x.n x.s) N x=decS (strL x.s))):=by
  refine hide ⟨fun k=>?_,fun k1 k2 k3=>?_⟩
  ·unfold openO;rw[if_pos k]
  ·unfold openO;rw[if_neg (fun k=>by rcases k with k|k|k;exact k1 k;exact k2 k;rw[k3]at k;cases k)]
 obtain⟨G,hG0⟩:∃G,Hid (openO (zY Rk.seedR 72 x.n x.s) N x=G):=⟨_,hide rfl⟩
 rw[hG0.out]at HO ⊢
 obtain⟨DD,hDD⟩:∃D,Hid (decS (strL x.s)=D):=⟨_,hide rfl⟩
 rw[hDD.out]at HO
 simp only[hDD.out]at cD0
 obtain⟨ck,hck⟩:∃c,Hid (checkOf (zY Rk.seedR 72 x.n x.s) x.t=c):=⟨_,hide rfl⟩
 rw[hck.out]at HO
 simp only[hck.out]at cC0
 obtain⟨u,hu⟩:∃u,Hid (v8 x.t=u):=⟨_,hide rfl⟩
 simp only[hu.out]at cC0 it16 e2
 obtain⟨xq,hxq⟩:∃q,Hid (x.cells=q):=⟨_,hide rfl⟩
 simp only[hxq.out]at hxl hx1 ix e0 e1 e2 ⊢
 obtain⟨z,hz⟩:∃z,x.s.size=z:=⟨_,rfl⟩
 rw[hz]at hs
 obtain⟨xn,hxn⟩:∃n,Hid (x.n=n):=⟨_,hide rfl⟩
 obtain⟨xs,hxs⟩:∃n,Hid (x.s=n):=⟨_,hide rfl⟩
 rw[hxn.out]at e0 HO
 rw[hxs.out]at e1 hz
 simp only[hxn.out,hxs.out]at cC0 cD0
 have h2:¬(4194304:Int)<z:=by omega
 obtain⟨hBk,rK,sK⟩:=zq w kq 29
 have eK:(w.alloc (.cells kq.toArray 29)).heap.size=w.heap.size+1:=by simp
 obtain⟨w1,hw1⟩:∃W,Hid (w.alloc (.cells kq.toArray 29)=W):=⟨_,hide rfl⟩
 obtain⟨hBx,rX,sX⟩:=zq w1 xq 25
 have eX:(w1.alloc (.cells xq.toArray 25)).heap.size=w1.heap.size+1:=by simp
 obtain⟨w2,hw2⟩:∃W,Hid (w1.alloc (.cells xq.toArray 25)=W):=⟨_,hide rfl⟩
 obtain⟨hB1,-,hs1⟩:=zq w2 zc 52
 have tT:=zi w2 zc.toArray 52 (n:=119) (by simp[hzl])
 rw[hw1.out]at hBk rK sK eK
 rw[hw2.out]at hBx rX sX eX
 have rK:=zd (zd rK hBx (by omega)) hB1 (by omega)
 have rX:=zd rX hB1 (by omega)
 have B1:=(hBk.trans (hBx.mono hBk.size)).trans (hB1.mono (by omega))
 obtain⟨W1,hW1⟩:∃W,Hid (w2.alloc (.cells zc.toArray 52)=W):=⟨_,hide rfl⟩
 rw[hW1.out]at hB1 hs1 tT rK rX B1
 obtain⟨B,hB⟩:∃B,Hid (w1.heap.size=B):=⟨_,hide rfl⟩
 obtain⟨A,hA⟩:∃A,Hid (w2.heap.size=A):=⟨_,hide rfl⟩
 rw[hB.out]at rX eX eK
 rw[hA.out]at tT hs1 eX
 have hAw:w.heap.size≤A:=by omega
 have hBs:B<W1.heap.size:=by omega
 clear sX sK eX eK hB1 hBx hBk hs hx hG0 hDD hck hu hkq
 go_enter func13,ntmps13
 go_upto_region 0 with fail
 refine pl_b ?_
 refine pl_r 3 (.pointer (some ⟨w.heap.size,0,none⟩)) (w.alloc (.cells kq.toArray 29)) (zaC rfl rfl) ?_
 rw[hw1.out]
 refine pl_r 5 (.pointer (some ⟨w1.heap.size,0,none⟩)) (w1.alloc (.cells xq.toArray 25)) (zaC rfl rfl) ?_
 rw[hw2.out]
 refine pl_r 6 (.pointer (some ⟨w2.heap.size,0,none⟩)) (w2.alloc (.cells zc.toArray 52)) (zo rfl (hzr _)) ?_
 rw[hW1.out]
 refine pl_a 7 ?_
 refine za ?_
 simp only[hB.out,hA.out]
 have c0:W1.cell? ⟨B,0,none⟩=some (.int .i64 xn):=rX 0 _ e0
 have c1:W1.cell? ⟨B,1,none⟩=some (.string xs):=rX 1 _ e1
 have rt:W1.rangeAt B 2 u:=fun j v h=>by
  have:=rX (2+j) v (e2 j v h)
  rwa [Nat.zero_add]at this
 clear hW1 hw1 hw2 hzr e0
 go_upto_region 1 with fail
 by_cases h0:xn<0
 ·have hR:G=(Mp.none,140):=HO.out.1 (.inl h0)
  clear HO cC0 cD0
  refine pl_b ?_
  refine pl_v 8 (.pointer (some ⟨B,0,none⟩)) (by go_simp<;>(try simp[*])) ?_
  refine pl_v 9 (.int .i64 xn) (zg rfl rfl c0 underlying3 rfl) ?_
  refine pl_v 10 (.bool true) (by go_simp<;>(try simp[*])) ?_
  refine pl_a 11 ?_
  refine pl_k 12 ?_
  refine pl_k 13 ?_
  refine pl_k 14 ?_
  refine pl_k 15 ?_
  refine pl_a 16 ?_
  refine pl_a 17 ?_
  refine pl_k 18 ?_
  refine pl_k 19 ?_
  refine pl_k 20 ?_
  refine pl_k 21 ?_
  refine pl_a 22 ?_
  refine pl_a 23 ?_
  refine pl_k 24 ?_
  refine pl_k 25 ?_
  refine pl_k 26 ?_
  refine pl_k 27 ?_
  refine pl_k 28 ?_
  refine pl_k 29 ?_
  refine pl_k 30 ?_
  refine pl_k 31 ?_
  refine pl_k 32 ?_
  refine pl_a 33 ?_
  refine za ?_
  clear h0
  go_upto_region 2 with fail
  refine pl_b ?_
  refine pl_v 34 (.agg zc.toArray) (zI (parts:=[]) rfl rfl (hb0 _)) ?_
  refine pl_s (W1.setCells A 0 zc) (zf (cs:=zc.toArray) rfl rfl rfl (by simpa [hzl]using tT) (by simpa using hiz) (zh hz1)) ?_
  refine pl_a 7 ?_
  refine za ?_
  have hrs:=run_loadVar_mid (P:=prog) (W1.setCells A 0 zc) A 0 52 zc _ (World.rangeAt_setCells_same W1 A 0 zc (by rw[hzl];exact tT)) underlying52 rfl hiz
  have HF:Hid (∃g:Mg,Ending.returned (.tuple #[.agg zc.toArray,.int .i64 140])=.returned (.tuple #[.agg g.ms.cells.toArray,.int .i64 G.2])∧g.pure=G.1∧g.ok∧g.At (W1.setCells A 0 zc)∧Below w.heap.size w (W1.setCells A 0 zc)):=hide ⟨Mg.none,by rw[hR,hzc.out],by rw[hR];rfl,Mg.none_ok,Mg.none_at _,ze hAw _ _ _ B1⟩
  clear tT B1 hR c0 c1 rX rK rt
  go_wp2_with fail
  refine bodyPost_ret (zac rfl _ _ _ rfl hrs) rfl ?_
  exact HF.out
 ·by_cases h1:N≤xn
  ·have hR:G=(Mp.none,140):=HO.out.1 (.inr (.inl h1))
   clear HO cC0 cD0
   refine pl_b ?_
   refine pl_v 8 (.pointer (some ⟨B,0,none⟩)) (by go_simp<;>(try simp[*])) ?_
   refine pl_v 9 (.int .i64 xn) (zg rfl rfl c0 underlying3 rfl) ?_
   refine pl_v 10 (.bool false) (by go_simp<;>(try simp[*])) ?_
   refine pl_a 11 ?_
   refine pl_v 12 (.pointer (some ⟨B,0,none⟩)) (by go_simp<;>(try simp[*])) ?_
   refine pl_v 13 (.int .i64 xn) (zg rfl rfl c0 underlying3 rfl) ?_
   refine pl_a 14 ?_
   refine pl_v 15 (.bool true) (by go_simp<;>(try simp[*])) ?_
   refine pl_a 16 ?_
   refine pl_a 17 ?_
   refine pl_k 18 ?_
   refine pl_k 19 ?_
   refine pl_k 20 ?_
   refine pl_k 21 ?_
   refine pl_a 22 ?_
   refine pl_a 23 ?_
   refine pl_k 24 ?_
   refine pl_k 25 ?_
   refine pl_k 26 ?_
   refine pl_k 27 ?_
   refine pl_k 28 ?_
   refine pl_k 29 ?_
   refine pl_k 30 ?_
   refine pl_k 31 ?_
   refine pl_k 32 ?_
   refine pl_a 33 ?_
   refine za ?_
   clear h0 h1
   go_upto_region 2 with fail
   refine pl_b ?_
   refine pl_v 34 (.agg zc.toArray) (zI (parts:=[]) rfl rfl (hb0 _)) ?_
   refine pl_s (W1.setCells A 0 zc) (zf (cs:=zc.toArray) rfl rfl rfl (by simpa [hzl]using tT) (by simpa using hiz) (zh hz1)) ?_
   refine pl_a 7 ?_
   refine za ?_
   have hrs:=run_loadVar_mid (P:=prog) (W1.setCells A 0 zc) A 0 52 zc _ (World.rangeAt_setCells_same W1 A 0 zc (by rw[hzl];exact tT)) underlying52 rfl hiz
   have HF:Hid (∃g:Mg,Ending.returned (.tuple #[.agg zc.toArray,.int .i64 140])=.returned (.tuple #[.agg g.ms.cells.toArray,.int .i64 G.2])∧g.pure=G.1∧g.ok∧g.At (W1.setCells A 0 zc)∧Below w.heap.size w (W1.setCells A 0 zc)):=hide ⟨Mg.none,by rw[hR,hzc.out],by rw[hR];rfl,Mg.none_ok,Mg.none_at _,ze hAw _ _ _ B1⟩
   clear tT B1 hR c0 c1 rX rK rt
   go_wp2_with fail
   refine bodyPost_ret (zac rfl _ _ _ rfl hrs) rfl ?_
   exact HF.out
  ·have H3:=hide (HO.out.2 h0 h1)
   have H4:=hide (fun h=>HO.out.1 (.inr (.inr h)))
   clear HO
   refine pl_b ?_
   refine pl_v 8 (.pointer (some ⟨B,0,none⟩)) (by go_simp<;>(try simp[*])) ?_
   refine pl_v 9 (.int .i64 xn) (zg rfl rfl c0 underlying3 rfl) ?_
   refine pl_v 10 (.bool false) (by go_simp<;>(try simp[*])) ?_
   refine pl_a 11 ?_
   refine pl_v 12 (.pointer (some ⟨B,0,none⟩)) (by go_simp<;>(try simp[*])) ?_
   refine pl_v 13 (.int .i64 xn) (zg rfl rfl c0 underlying3 rfl) ?_
   refine pl_a 14 ?_
   refine pl_v 15 (.bool false) (by go_simp<;>(try simp[*])) ?_
   refine pl_a 16 ?_
   refine pl_a 17 ?_
   refine pl_v 18 (.pointer (some ⟨B,1,none⟩)) (by go_simp<;>(try simp[*])) ?_
   refine pl_v 19 (.string xs) (zg rfl rfl c1 underlying9 rfl) ?_
   refine pl_v 20 (.int .i64 (z:Int)) (by go_simp<;>(try simp[hz])) ?_
   refine pl_v 21 (.bool false) (by go_simp<;>(try simp[*])) ?_
   refine pl_a 22 ?_
   refine pl_a 23 ?_
   refine pl_v 24 (.agg kq.toArray) (zp rfl rfl rK underlying29 rfl ik) ?_
   refine pl_v 25 (.pointer (some ⟨B,0,none⟩)) (by go_simp<;>(try simp[*])) ?_
   refine pl_v 26 (.int .i64 xn) (zg rfl rfl c0 underlying3 rfl) ?_
   refine pl_v 27 (.pointer (some ⟨B,1,none⟩)) (by go_simp<;>(try simp[*])) ?_
   refine pl_v 28 (.string xs) (zg rfl rfl c1 underlying9 rfl) ?_
   refine pl_v 29 (.pointer (some ⟨B,2,none⟩)) (by go_simp<;>(try simp[*])) ?_
   refine pl_v 30 (.agg u.toArray) (zp rfl rfl rt underlying23 rfl it16) ?_
   refine pl_c 31 ?_
   refine(cC0 W1).mono ?_
   rintro _ w3 ⟨rfl,hb3⟩
   refine⟨_,rfl,?_⟩
   simp only[nz]
   have B3:=B1.trans (hb3.mono B1.size)
   have tT:=zj tT hb3 hs1
   have rX:=zd rX hb3 hBs
   have c1:w3.cell? ⟨B,1,none⟩=some (.string xs):=rX 1 _ e1
   have s3:=Nat.lt_of_lt_of_le hs1 hb3.size
   clear h0 h1 B1 hb3 rK rt cC0 hz h2 c0
   by_cases hc:ck=true
   ·have hR:G=DD:=H3.out hc
    clear H3 H4
    subst hc
    refine pl_a 32 ?_
    refine pl_a 33 ?_
    refine za ?_
    go_upto_region 3 with fail
    refine pl_b ?_
    refine pl_v 35 (.pointer (some ⟨B,1,none⟩)) (by go_simp<;>(try simp[*])) ?_
    refine pl_v 36 (.string xs) (zg rfl rfl c1 underlying9 rfl) ?_
    refine pl_c 37 ?_
    refine(cD0 w3).mono ?_
    rintro _ w4 ⟨m,rfl,hmp,hmo,hmA,hmB,hb4⟩
    have hql:=hmo.ms.len
    have hq1:=hmo.ms.one
    have hiq:(prog.info? 52).map (·.size)=some m.ms.cells.length:=by rw[hql];exact iszM
    obtain⟨q,hqq⟩:∃q,Hid (m.ms.cells=q):=⟨_,hide rfl⟩
    simp only[hqq.out]at hql hq1 hiq ⊢
    have tT:=zj tT hb4 s3
    have B4:=B3.trans (hb4.mono B3.size)
    have A9:=fun vs=>Mg.At.put (o:=0) (vs:=vs) hmA (hmB.mono (fun b (hb:w3.heap.size≤b)=>show A<b by omega))
    have HM:=hide (show m.pure=DD.1∧m.ok from⟨hmp,hmo⟩)
    clear hmp hmo hmA hmB hb4 B3 s3 c1 rX cD0
    refine⟨_,rfl,?_⟩
    simp only[nz]
    refine pl_a 38 ?_
    refine pl_a 39 ?_
    refine pl_s (w4.setCells A 0 q) (zf (cs:=q.toArray) rfl rfl rfl (by simpa [hql]using tT) (by simpa using hiq) (zh hq1)) ?_
    refine pl_a 7 ?_
    refine za ?_
    have hrs:=run_loadVar_mid (P:=prog) (w4.setCells A 0 q) A 0 52 q _ (World.rangeAt_setCells_same w4 A 0 q (by rw[hql];exact tT)) underlying52 rfl hiq
    have HF:Hid (∃g:Mg,Ending.returned (.tuple #[.agg q.toArray,.int .i64 DD.2])=.returned (.tuple #[.agg g.ms.cells.toArray,.int .i64 G.2])∧g.pure=G.1∧g.ok∧g.At (w4.setCells A 0 q)∧Below w.heap.size w (w4.setCells A 0 q)):=hide ⟨m,by rw[hqq.out,hR],by rw[hR];exact HM.out.1,HM.out.2,A9 q,ze hAw _ _ _ B4⟩
    clear tT B4 hR HM A9 hqq
    go_wp2_with fail
    refine bodyPost_ret (zac rfl _ _ _ rfl hrs) rfl ?_
    exact HF.out
   ·have hc:ck=false:=by simpa using hc
    have hR:G=(Mp.none,140):=H4.out hc
    clear H3 H4
    subst hc
    refine pl_a 32 ?_
    refine pl_a 33 ?_
    refine za ?_
    go_upto_region 2 with fail
    refine pl_b ?_
    refine pl_v 34 (.agg zc.toArray) (zI (parts:=[]) rfl rfl (hb0 _)) ?_
    refine pl_s (w3.setCells A 0 zc) (zf (cs:=zc.toArray) rfl rfl rfl (by simpa [hzl]using tT) (by simpa using hiz) (zh hz1)) ?_
    refine pl_a 7 ?_
    refine za ?_
    have hrs:=run_loadVar_mid (P:=prog) (w3.setCells A 0 zc) A 0 52 zc _ (World.rangeAt_setCells_same w3 A 0 zc (by rw[hzl];exact tT)) underlying52 rfl hiz
    have HF:Hid (∃g:Mg,Ending.returned (.tuple #[.agg zc.toArray,.int .i64 140])=.returned (.tuple #[.agg g.ms.cells.toArray,.int .i64 G.2])∧g.pure=G.1∧g.ok∧g.At (w3.setCells A 0 zc)∧Below w.heap.size w (w3.setCells A 0 zc)):=hide ⟨Mg.none,by rw[hR,hzc.out],by rw[hR];rfl,Mg.none_ok,Mg.none_at _,ze hAw _ _ _ B3⟩
    clear tT B3 hR c1 rX
    go_wp2_with fail
    refine bodyPost_ret (zac rfl _ _ _ rfl hrs) rfl ?_
    exact HF.out
open Qs (KeysAt signOf checkOf)
theorem zif {n:Int} (h:(Lit.int .i64 n).wf=true):-9223372036854775808≤n∧n≤9223372036854775807:=by
 simp[Lit.wf,IntKind.min,IntKind.max,IntKind.signed,IntKind.bits]at h
 omega
theorem ziY (n:Int) (sb:ByteArray):sealO (signOf [] n sb) n sb=(evZ,1):=rfl
theorem zkh (N:Int) (x:Ev):openP [] N x=(Mp.none,1):=rfl
theorem zkg {ds:List (List Int)} (h:ds.length=72) (N:Int) (x:Ev):openP ds N x=openO (signOf ds x.n x.s) N x:=by
 unfold openP
 rw[if_neg (fun k=>by rw[k]at h;cases h)]
theorem zlM (n N:Int) (sb:ByteArray) (x:Ev) (w:World) (hn:-9223372036854775808≤n∧n≤9223372036854775807) (hx:x.ok) (hG:Glob w):Calls prog 3 #[.int .i64 n,.int .i64 N,.string sb,.agg x.cells.toArray] w fun e w'=>e=.returned (.bool true)∧Below w.heap.size w w':=by
 have HG:=hide hG
 obtain⟨ez,hez,hel⟩:∃z:List Value,(∀w:World,(zeroValue 25).run prog w=.ok (.agg z.toArray) w)∧z.length=18:=⟨evZ.cells,zct,rfl⟩
 obtain⟨mz,hmz,hml⟩:∃z:List Value,(∀w:World,(zeroValue 52).run prog w=.ok (.agg z.toArray) w)∧z.length=119:=⟨Mg.none.ms.cells,zeroM,Mg.none_ok.ms.len⟩
 obtain⟨zk,hzkl,hzkr⟩:∃z:List Value,z.length=2∧(∀w:World,(zeroValue 29).run prog w=.ok (.agg z.toArray) w):=⟨[.string ⟨#[]⟩,.int .i64 0],rfl,fun w=>by kernel_rfl⟩
 have cK:=fun w0 g=>Rk.zgB w0 g
 have hkl:=Qs.zb0 Rk.seedR 72
 have cX0:=fun w0 h=>zhV n sb w0 h
 have cXO0:=fun w0 h=>zh0 N x w0 hx h
 obtain⟨ks,hks⟩:∃k,Hid (Qs.keysOf Rk.seedR 72=k):=⟨_,hide rfl⟩
 simp only[hks.out]at cK hkl cX0 cXO0
 have ik:(prog.info? 29).map (·.size)=some Rk.rkL.length:=by kernel_rfl
 have hkl2:Rk.rkL.length=2:=rfl
 have hk1:∀v∈Rk.rkL,v.oneCell'=true:=by decide
 obtain⟨kq,hkq⟩:∃k,Hid (Rk.rkL=k):=⟨_,hide rfl⟩
 simp only[hkq.out]at cK ik hkl2 hk1 cX0 cXO0
 have cE0:=fun p w0 g k h=>zd7 p ks n sb w0 g k h
 have cO0:=fun p w0 g k h=>zg9 p ks N x w0 g k hx h
 simp only[zkg hkl]at cO0
 have cEn0:=fun w0 g h=>zd7 none [] n sb w0 g (.inl ⟨rfl,rfl⟩) h
 have cOn0:=fun w0 g h=>zg9 none [] N x w0 g (.inl ⟨rfl,rfl⟩) hx h
 simp only[ziY]at cEn0
 simp only[zkh]at cOn0
 obtain⟨R,hR⟩:∃R,Hid (openO (signOf ks x.n x.s) N x=R):=⟨_,hide rfl⟩
 simp only[hR.out]at cO0 cXO0
 have yok':sb.size≤40000→(sealO (signOf ks n sb) n sb).1.ok:=fun h=>zfo (Qs.zbw _ _ _) (Qs.zdA _ _ _) (Nat.le_trans h (by decide)) hn.1 hn.2
 obtain⟨⟨y,ye⟩,hy⟩:∃r,Hid (sealO (signOf ks n sb) n sb=r):=⟨_,hide rfl⟩
 simp only[hy.out]at cE0 cX0 yok'
 have hxl:x.cells.length=18:=EvE.len x hx
 have ix:(prog.info? 25).map (·.size)=some x.cells.length:=by rw[hxl];exact za2
 have e1:x.cells[1]? =some (.string x.s):=rfl
 obtain⟨z,hz⟩:∃z,sb.size=z:=⟨_,rfl⟩
 obtain⟨zx,hzx⟩:∃z,x.s.size=z:=⟨_,rfl⟩
 rw[hz]at cE0 cX0 cEn0 yok'
 rw[hzx]at cO0 cXO0 cOn0
 obtain⟨xs,hxs⟩:∃s,Hid (x.s=s):=⟨_,hide rfl⟩
 rw[hxs.out]at hzx e1
 obtain⟨xq,hxq⟩:∃q,Hid (x.cells=q):=⟨_,hide rfl⟩
 simp only[hxq.out]at hxl ix e1 cO0 cXO0 cOn0 ⊢
 have evz1:∀v∈evZ.cells,v.oneCell'=true:=EvE.one evZ
 have izv:(prog.info? 25).map (·.size)=some evZ.cells.length:=za2
 have evzl:evZ.cells.length=18:=rfl
 obtain⟨nq,hnq⟩:∃q,Hid (evZ.cells=q):=⟨_,hide rfl⟩
 simp only[hnq.out]at evz1 izv evzl cEn0
 obtain⟨hBk,rX,sX⟩:=zq w xq 25
 obtain⟨w0,hw0⟩:∃W,Hid (w.alloc (.cells xq.toArray 25)=W):=⟨_,hide rfl⟩
 rw[hw0.out]at hBk rX sX
 have B:=hBk
 unfold OpenA at cO0 cXO0 cOn0
 clear hx hG hBk hR hy hks hkq hn hkl
 go_enter func3,ntmps3
 go_upto_region 0 with fail
 refine pl_b ?_
 refine pl_r 7 (.pointer (some ⟨w.heap.size,0,none⟩)) (w.alloc (.cells xq.toArray 25)) (zaC rfl rfl) ?_
 rw[hw0.out]
 refine pl_a 8 ?_
 refine za ?_
 have c1:w0.cell? ⟨w.heap.size,1,none⟩=some (.string xs):=rX 1 _ e1
 clear hw0
 go_upto_region 1 with fail
 by_cases hl:z≤20000
 rotate_left
 ·have h2:(20000:Int)<z:=by omega
  clear cK cE0 cX0 cXO0 cO0 cEn0 cOn0 yok' hl
  refine pl_b ?_
  refine pl_a 23 ?_
  refine pl_v 24 (.int .i64 (z:Int)) (by go_simp<;>(try simp[hz])) ?_
  refine pl_v 25 (.bool true) (by go_simp<;>(try simp[*])) ?_
  refine pl_a 26 ?_
  refine pl_k 27 ?_
  refine pl_k 28 ?_
  refine pl_k 29 ?_
  refine pl_k 30 ?_
  refine pl_a 31 ?_
  refine za ?_
  clear h2 hz c1
  go_upto_region 2 with fail
  refine pl_b ?_
  refine pl_c 32 ?_
  refine(zdU w0 (HG.out.below B)).mono ?_
  rintro _ wL ⟨rfl,hbL⟩
  refine⟨_,rfl,?_⟩
  simp only[nz]
  refine pl_a 8 ?_
  refine za ?_
  have HB:=hide (B.trans (hbL.mono B.size))
  go_wp2_with fail
  go_ret
  exact⟨rfl,HB.out⟩
 have h2:¬(20000:Int)<z:=by omega
 by_cases hlx:zx≤20000
 rotate_left
 ·have h3:(20000:Int)<zx:=by omega
  clear cK cE0 cX0 cXO0 cO0 cEn0 cOn0 yok' hl hlx
  refine pl_b ?_
  refine pl_a 23 ?_
  refine pl_v 24 (.int .i64 (z:Int)) (by go_simp<;>(try simp[hz])) ?_
  refine pl_v 25 (.bool false) (by go_simp<;>(try simp[*])) ?_
  refine pl_a 26 ?_
  refine pl_v 27 (.pointer (some ⟨w.heap.size,1,none⟩)) (by go_simp<;>(try simp[*])) ?_
  refine pl_v 28 (.string xs) (zg rfl rfl c1 underlying9 rfl) ?_
  refine pl_v 29 (.int .i64 (zx:Int)) (by go_simp<;>(try simp[hzx])) ?_
  refine pl_v 30 (.bool true) (by go_simp<;>(try simp[*])) ?_
  refine pl_a 31 ?_
  refine za ?_
  clear h2 h3 hz hzx c1
  go_upto_region 2 with fail
  refine pl_b ?_
  refine pl_c 32 ?_
  refine(zdU w0 (HG.out.below B)).mono ?_
  rintro _ wL ⟨rfl,hbL⟩
  refine⟨_,rfl,?_⟩
  simp only[nz]
  refine pl_a 8 ?_
  refine za ?_
  have HB:=hide (B.trans (hbL.mono B.size))
  go_wp2_with fail
  go_ret
  exact⟨rfl,HB.out⟩
 have h3:¬(20000:Int)<zx:=by omega
 refine pl_b ?_
 refine pl_a 23 ?_
 refine pl_v 24 (.int .i64 (z:Int)) (by go_simp<;>(try simp[hz])) ?_
 refine pl_v 25 (.bool false) (by go_simp<;>(try simp[*])) ?_
 refine pl_a 26 ?_
 refine pl_v 27 (.pointer (some ⟨w.heap.size,1,none⟩)) (by go_simp<;>(try simp[*])) ?_
 refine pl_v 28 (.string xs) (zg rfl rfl c1 underlying9 rfl) ?_
 refine pl_v 29 (.int .i64 (zx:Int)) (by go_simp<;>(try simp[hzx])) ?_
 refine pl_v 30 (.bool false) (by go_simp<;>(try simp[*])) ?_
 refine pl_a 31 ?_
 refine za ?_
 have hl4:z≤40000:=by omega
 have hlx4:zx≤40000:=by omega
 have yok:=yok' hl4
 have cE:=fun p w0 g k=>cE0 p w0 g k hl4
 have cX:=fun w0=>cX0 w0 hl4
 have cEn:=fun w0 g=>cEn0 w0 g hl4
 have cO:=fun p w0 g k=>cO0 p w0 g k hlx4
 have cXO:=fun w0=>cXO0 w0 hlx4
 have cOn:=fun w0 g=>cOn0 w0 g hlx4
 have heq:=fun w0=>zmO y y yok yok w0
 rw[Ev.B_iff.2 rfl]at heq
 have hyl:y.cells.length=18:=EvE.len y yok
 have hy1:∀v∈y.cells,v.oneCell'=true:=EvE.one y
 have iy:(prog.info? 25).map (·.size)=some y.cells.length:=by rw[hyl];exact za2
 obtain⟨yq,hyq⟩:∃q,Hid (y.cells=q):=⟨_,hide rfl⟩
 simp only[hyq.out]at hyl hy1 iy heq cE cX
 clear h2 h3 hz hzx c1 yok yok' cE0 cX0 cEn0 cO0 cXO0 cOn0 hl hlx hl4 hlx4 e1
 go_upto_region 3 with fail
 refine pl_b ?_
 refine pl_c 34 ?_
 refine(cK w0 (HG.out.below B)).mono ?_
 rintro _ w1 ⟨p,rfl,hp,hk,hb1⟩
 refine⟨_,rfl,?_⟩
 simp only[nz]
 refine pl_a 33 ?_
 refine pl_a 35 ?_
 refine pl_a 36 ?_
 refine pl_r 10 (.pointer (some ⟨w1.heap.size,0,none⟩)) (w1.alloc (.cells zk.toArray 29)) (zo rfl (hzkr _)) ?_
 refine pl_a 9 ?_
 refine pl_s ((w1.alloc (.cells zk.toArray 29)).setCells w1.heap.size 0 kq) (zf (cs:=kq.toArray) rfl rfl rfl (zi _ _ _ (by simp[hzkl,hkl2])) (by simpa using ik) (zh hk1)) ?_
 refine za ?_
 have rX:=zd rX hb1 sX
 have sX:=Nat.lt_of_lt_of_le sX hb1.size
 have B:=B.trans (hb1.mono B.size)
 obtain⟨rK,hF,hF3,-⟩:=zt w1 zk.toArray 29 kq (by simp[hzkl,hkl2])
 have rX:=zd rX hF sX
 have sX:=Nat.lt_of_lt_of_le sX hF.size
 have B:=B.trans (hF.mono B.size)
 have hk:=hk.below hF
 obtain⟨D1,hD1⟩:∃D,w1.heap.size=D:=⟨_,rfl⟩
 have sK:w1.heap.size<((w1.alloc (.cells zk.toArray 29)).setCells w1.heap.size 0 kq).heap.size:=by omega
 rw[hD1]at rK sK rX sX B hk
 simp only[hD1]
 obtain⟨v1,hv1⟩:∃W,(w1.alloc (.cells zk.toArray 29)).setCells D1 0 kq=W:=⟨_,rfl⟩
 rw[hv1]at rK sK rX sX B hk
 rw[hv1]
 clear hv1 hD1 hF hF3
 clear hb1 cK hp hzkr
 go_upto_region 4 with fail
 refine pl_b ?_
 refine pl_a 38 ?_
 refine pl_a 39 ?_
 refine pl_a 40 ?_
 refine pl_c 41 ?_
 refine(cE p v1 (HG.out.below B) hk).mono ?_
 rintro _ wc ⟨rfl,hb⟩
 refine⟨_,rfl,?_⟩
 simp only[nz]
 refine pl_a 37 ?_
 refine pl_a 42 ?_
 refine pl_a 43 ?_
 refine pl_r 11 (.pointer (some ⟨wc.heap.size,0,none⟩)) (wc.alloc (.cells ez.toArray 25)) (zo rfl (hez _)) ?_
 refine pl_s ((wc.alloc (.cells ez.toArray 25)).setCells wc.heap.size 0 yq) (zf (cs:=yq.toArray) rfl rfl rfl (zi _ _ _ (by simp[hel,hyl])) (by simpa using iy) (zh hy1)) ?_
 refine pl_a 12 ?_
 refine za ?_
 have rX:=zd rX hb sX
 have rK:=zd rK hb sK
 have sX:=Nat.lt_of_lt_of_le sX hb.size
 have sK:=Nat.lt_of_lt_of_le sK hb.size
 have B:=B.trans (hb.mono B.size)
 have hk:=hk.below hb
 obtain⟨rY,hF,hF3,-⟩:=zt wc ez.toArray 25 yq (by simp[hel,hyl])
 have rX:=zd rX hF sX
 have rK:=zd rK hF sK
 have sX:=Nat.lt_of_lt_of_le sX hF.size
 have sK:=Nat.lt_of_lt_of_le sK hF.size
 have B:=B.trans (hF.mono B.size)
 have hk:=hk.below hF
 obtain⟨D2,hD2⟩:∃D,wc.heap.size=D:=⟨_,rfl⟩
 have sY:wc.heap.size<((wc.alloc (.cells ez.toArray 25)).setCells wc.heap.size 0 yq).heap.size:=by omega
 rw[hD2]at rY sY rX sX rK sK B hk
 simp only[hD2]
 obtain⟨v2,hv2⟩:∃W,(wc.alloc (.cells ez.toArray 25)).setCells D2 0 yq=W:=⟨_,rfl⟩
 rw[hv2]at rY sY rX sX rK sK B hk
 rw[hv2]
 clear hv2 hD2 hF hF3
 clear hb
 go_upto_region 5 with fail
 refine pl_b ?_
 refine pl_v 45 (.agg kq.toArray) (zp rfl rfl rK underlying29 rfl ik) ?_
 refine pl_a 46 ?_
 refine pl_a 47 ?_
 refine pl_c 48 ?_
 refine(cX v2).mono ?_
 rintro _ wc ⟨rfl,hb⟩
 refine⟨_,rfl,?_⟩
 simp only[nz]
 refine pl_a 44 ?_
 refine pl_a 49 ?_
 refine pl_a 50 ?_
 refine pl_r 13 (.pointer (some ⟨wc.heap.size,0,none⟩)) (wc.alloc (.cells ez.toArray 25)) (zo rfl (hez _)) ?_
 refine pl_s ((wc.alloc (.cells ez.toArray 25)).setCells wc.heap.size 0 yq) (zf (cs:=yq.toArray) rfl rfl rfl (zi _ _ _ (by simp[hel,hyl])) (by simpa using iy) (zh hy1)) ?_
 refine pl_a 14 ?_
 refine za ?_
 have rX:=zd rX hb sX
 have rK:=zd rK hb sK
 have rY:=zd rY hb sY
 have sX:=Nat.lt_of_lt_of_le sX hb.size
 have sK:=Nat.lt_of_lt_of_le sK hb.size
 have sY:=Nat.lt_of_lt_of_le sY hb.size
 have B:=B.trans (hb.mono B.size)
 have hk:=hk.below hb
 obtain⟨rV,hF,hF3,-⟩:=zt wc ez.toArray 25 yq (by simp[hel,hyl])
 have rX:=zd rX hF sX
 have rK:=zd rK hF sK
 have rY:=zd rY hF sY
 have sX:=Nat.lt_of_lt_of_le sX hF.size
 have sK:=Nat.lt_of_lt_of_le sK hF.size
 have sY:=Nat.lt_of_lt_of_le sY hF.size
 have B:=B.trans (hF.mono B.size)
 have hk:=hk.below hF
 obtain⟨D3,hD3⟩:∃D,wc.heap.size=D:=⟨_,rfl⟩
 have sV:wc.heap.size<((wc.alloc (.cells ez.toArray 25)).setCells wc.heap.size 0 yq).heap.size:=by omega
 rw[hD3]at rV sV rX sX rK sK rY sY B hk
 simp only[hD3]
 obtain⟨v3,hv3⟩:∃W,(wc.alloc (.cells ez.toArray 25)).setCells D3 0 yq=W:=⟨_,rfl⟩
 rw[hv3]at rV sV rX sX rK sK rY sY B hk
 rw[hv3]
 clear hv3 hD3 hF hF3
 clear hb
 go_upto_region 6 with fail
 refine pl_b ?_
 refine pl_a 52 ?_
 refine pl_a 53 ?_
 refine pl_v 54 (.agg xq.toArray) (zp rfl rfl rX underlying25 rfl ix) ?_
 refine pl_c 55 ?_
 refine(cO p v3 (HG.out.below B) hk).mono ?_
 rintro _ wc ⟨m,rfl,mp,mo,ma,hb⟩
 have hl1:=mo.ms.len
 have ho1:=mo.ms.one
 have iq1:(prog.info? 52).map (·.size)=some m.ms.cells.length:=by rw[hl1];exact iszM
 obtain⟨q,hq⟩:∃q,Hid (m.ms.cells=q):=⟨_,hide rfl⟩
 simp only[hq.out]at hl1 ho1 iq1 ⊢
 refine⟨_,rfl,?_⟩
 simp only[nz]
 refine pl_a 51 ?_
 refine pl_a 56 ?_
 refine pl_a 57 ?_
 refine pl_r 15 (.pointer (some ⟨wc.heap.size,0,none⟩)) (wc.alloc (.cells mz.toArray 52)) (zo rfl (hmz _)) ?_
 refine pl_s ((wc.alloc (.cells mz.toArray 52)).setCells wc.heap.size 0 q) (zf (cs:=q.toArray) rfl rfl rfl (zi _ _ _ (by simp[hml,hl1])) (by simpa using iq1) (zh ho1)) ?_
 refine pl_a 16 ?_
 refine za ?_
 have rX:=zd rX hb sX
 have rK:=zd rK hb sK
 have rY:=zd rY hb sY
 have rV:=zd rV hb sV
 have sX:=Nat.lt_of_lt_of_le sX hb.size
 have sK:=Nat.lt_of_lt_of_le sK hb.size
 have sY:=Nat.lt_of_lt_of_le sY hb.size
 have sV:=Nat.lt_of_lt_of_le sV hb.size
 have B:=B.trans (hb.mono B.size)
 have hk:=hk.below hb
 obtain⟨rQ,hF,hF3,-⟩:=zt wc mz.toArray 52 q (by simp[hml,hl1])
 have rX:=zd rX hF sX
 have rK:=zd rK hF sK
 have rY:=zd rY hF sY
 have rV:=zd rV hF sV
 have sX:=Nat.lt_of_lt_of_le sX hF.size
 have sK:=Nat.lt_of_lt_of_le sK hF.size
 have sY:=Nat.lt_of_lt_of_le sY hF.size
 have sV:=Nat.lt_of_lt_of_le sV hF.size
 have ma:=ma.below hF
 have B:=B.trans (hF.mono B.size)
 have hk:=hk.below hF
 obtain⟨D4,hD4⟩:∃D,wc.heap.size=D:=⟨_,rfl⟩
 have sQ:wc.heap.size<((wc.alloc (.cells mz.toArray 52)).setCells wc.heap.size 0 q).heap.size:=by omega
 rw[hD4]at rQ sQ rX sX rK sK rY sY rV sV ma B hk
 simp only[hD4]
 obtain⟨v4,hv4⟩:∃W,(wc.alloc (.cells mz.toArray 52)).setCells D4 0 q=W:=⟨_,rfl⟩
 rw[hv4]at rQ sQ rX sX rK sK rY sY rV sV ma B hk
 rw[hv4]
 clear hv4 hD4 hF hF3
 clear hb
 go_upto_region 7 with fail
 refine pl_b ?_
 refine pl_v 59 (.agg kq.toArray) (zp rfl rfl rK underlying29 rfl ik) ?_
 refine pl_a 60 ?_
 refine pl_v 61 (.agg xq.toArray) (zp rfl rfl rX underlying25 rfl ix) ?_
 refine pl_c 62 ?_
 refine(cXO v4).mono ?_
 rintro _ wc ⟨g,rfl,gp,go,ga,hb⟩
 have hl2:=go.ms.len
 have ho2:=go.ms.one
 have iq2:(prog.info? 52).map (·.size)=some g.ms.cells.length:=by rw[hl2];exact iszM
 obtain⟨f,hf⟩:∃q,Hid (g.ms.cells=q):=⟨_,hide rfl⟩
 simp only[hf.out]at hl2 ho2 iq2 ⊢
 refine⟨_,rfl,?_⟩
 simp only[nz]
 refine pl_a 58 ?_
 refine pl_a 63 ?_
 refine pl_a 64 ?_
 refine pl_r 17 (.pointer (some ⟨wc.heap.size,0,none⟩)) (wc.alloc (.cells mz.toArray 52)) (zo rfl (hmz _)) ?_
 refine pl_s ((wc.alloc (.cells mz.toArray 52)).setCells wc.heap.size 0 f) (zf (cs:=f.toArray) rfl rfl rfl (zi _ _ _ (by simp[hml,hl2])) (by simpa using iq2) (zh ho2)) ?_
 refine pl_a 18 ?_
 refine za ?_
 have rX:=zd rX hb sX
 have rK:=zd rK hb sK
 have rY:=zd rY hb sY
 have rV:=zd rV hb sV
 have rQ:=zd rQ hb sQ
 have sX:=Nat.lt_of_lt_of_le sX hb.size
 have sK:=Nat.lt_of_lt_of_le sK hb.size
 have sY:=Nat.lt_of_lt_of_le sY hb.size
 have sV:=Nat.lt_of_lt_of_le sV hb.size
 have sQ:=Nat.lt_of_lt_of_le sQ hb.size
 have ma:=ma.below hb
 have B:=B.trans (hb.mono B.size)
 have hk:=hk.below hb
 obtain⟨rF,hF,hF3,-⟩:=zt wc mz.toArray 52 f (by simp[hml,hl2])
 have rX:=zd rX hF sX
 have rK:=zd rK hF sK
 have rY:=zd rY hF sY
 have rV:=zd rV hF sV
 have rQ:=zd rQ hF sQ
 have sX:=Nat.lt_of_lt_of_le sX hF.size
 have sK:=Nat.lt_of_lt_of_le sK hF.size
 have sY:=Nat.lt_of_lt_of_le sY hF.size
 have sV:=Nat.lt_of_lt_of_le sV hF.size
 have sQ:=Nat.lt_of_lt_of_le sQ hF.size
 have ma:=ma.below hF
 have ga:=ga.below hF
 have B:=B.trans (hF.mono B.size)
 have hk:=hk.below hF
 obtain⟨D5,hD5⟩:∃D,wc.heap.size=D:=⟨_,rfl⟩
 have sF:wc.heap.size<((wc.alloc (.cells mz.toArray 52)).setCells wc.heap.size 0 f).heap.size:=by omega
 rw[hD5]at rF sF rX sX rK sK rY sY rV sV rQ sQ ma ga B hk
 simp only[hD5]
 obtain⟨v5,hv5⟩:∃W,(wc.alloc (.cells mz.toArray 52)).setCells D5 0 f=W:=⟨_,rfl⟩
 rw[hv5]at rF sF rX sX rK sK rY sY rV sV rQ sQ ma ga B hk
 rw[hv5]
 clear hv5 hD5 hF hF3
 clear hb
 go_upto_region 8 with fail
 refine pl_b ?_
 refine pl_a 66 ?_
 refine pl_a 67 ?_
 refine pl_c 68 ?_
 refine(cEn v5 (HG.out.below B)).mono ?_
 rintro _ wc ⟨rfl,hb⟩
 refine⟨_,rfl,?_⟩
 simp only[nz]
 refine pl_a 65 ?_
 refine pl_a 69 ?_
 refine pl_a 70 ?_
 refine pl_r 19 (.pointer (some ⟨wc.heap.size,0,none⟩)) (wc.alloc (.cells ez.toArray 25)) (zo rfl (hez _)) ?_
 refine pl_s ((wc.alloc (.cells ez.toArray 25)).setCells wc.heap.size 0 nq) (zf (cs:=nq.toArray) rfl rfl rfl (zi _ _ _ (by simp[hel,evzl])) (by simpa using izv) (zh evz1)) ?_
 refine pl_a 20 ?_
 refine za ?_
 have rX:=zd rX hb sX
 have rK:=zd rK hb sK
 have rY:=zd rY hb sY
 have rV:=zd rV hb sV
 have rQ:=zd rQ hb sQ
 have rF:=zd rF hb sF
 have sX:=Nat.lt_of_lt_of_le sX hb.size
 have sK:=Nat.lt_of_lt_of_le sK hb.size
 have sY:=Nat.lt_of_lt_of_le sY hb.size
 have sV:=Nat.lt_of_lt_of_le sV hb.size
 have sQ:=Nat.lt_of_lt_of_le sQ hb.size
 have sF:=Nat.lt_of_lt_of_le sF hb.size
 have ma:=ma.below hb
 have ga:=ga.below hb
 have B:=B.trans (hb.mono B.size)
 have hk:=hk.below hb
 obtain⟨rN,hF,hF3,-⟩:=zt wc ez.toArray 25 nq (by simp[hel,evzl])
 have rX:=zd rX hF sX
 have rK:=zd rK hF sK
 have rY:=zd rY hF sY
 have rV:=zd rV hF sV
 have rQ:=zd rQ hF sQ
 have rF:=zd rF hF sF
 have sX:=Nat.lt_of_lt_of_le sX hF.size
 have sK:=Nat.lt_of_lt_of_le sK hF.size
 have sY:=Nat.lt_of_lt_of_le sY hF.size
 have sV:=Nat.lt_of_lt_of_le sV hF.size
 have sQ:=Nat.lt_of_lt_of_le sQ hF.size
 have sF:=Nat.lt_of_lt_of_le sF hF.size
 have ma:=ma.below hF
 have ga:=ga.below hF
 have B:=B.trans (hF.mono B.size)
 have hk:=hk.below hF
 obtain⟨D6,hD6⟩:∃D,wc.heap.size=D:=⟨_,rfl⟩
 have sN:wc.heap.size<((wc.alloc (.cells ez.toArray 25)).setCells wc.heap.size 0 nq).heap.size:=by omega
 rw[hD6]at rN sN rX sX rK sK rY sY rV sV rQ sQ rF sF ma ga B hk
 simp only[hD6]
 obtain⟨v6,hv6⟩:∃W,(wc.alloc (.cells ez.toArray 25)).setCells D6 0 nq=W:=⟨_,rfl⟩
 rw[hv6]at rN sN rX sX rK sK rY sY rV sV rQ sQ rF sF ma ga B hk
 rw[hv6]
 clear hv6 hD6 hF hF3
 clear hb
 go_upto_region 9 with fail
 refine pl_b ?_
 refine pl_a 72 ?_
 refine pl_v 73 (.agg xq.toArray) (zp rfl rfl rX underlying25 rfl ix) ?_
 refine pl_c 74 ?_
 refine(cOn v6 (HG.out.below B)).mono ?_
 rintro _ wc ⟨o,rfl,op,oo,oa,hb⟩
 have hl3:=oo.ms.len
 have ho3:=oo.ms.one
 have iq3:(prog.info? 52).map (·.size)=some o.ms.cells.length:=by rw[hl3];exact iszM
 obtain⟨j,hj⟩:∃q,Hid (o.ms.cells=q):=⟨_,hide rfl⟩
 simp only[hj.out]at hl3 ho3 iq3 ⊢
 refine⟨_,rfl,?_⟩
 simp only[nz]
 refine pl_a 71 ?_
 refine pl_a 75 ?_
 refine pl_a 76 ?_
 refine pl_r 21 (.pointer (some ⟨wc.heap.size,0,none⟩)) (wc.alloc (.cells mz.toArray 52)) (zo rfl (hmz _)) ?_
 refine pl_s ((wc.alloc (.cells mz.toArray 52)).setCells wc.heap.size 0 j) (zf (cs:=j.toArray) rfl rfl rfl (zi _ _ _ (by simp[hml,hl3])) (by simpa using iq3) (zh ho3)) ?_
 refine pl_a 22 ?_
 refine za ?_
 have rX:=zd rX hb sX
 have rK:=zd rK hb sK
 have rY:=zd rY hb sY
 have rV:=zd rV hb sV
 have rQ:=zd rQ hb sQ
 have rF:=zd rF hb sF
 have rN:=zd rN hb sN
 have sX:=Nat.lt_of_lt_of_le sX hb.size
 have sK:=Nat.lt_of_lt_of_le sK hb.size
 have sY:=Nat.lt_of_lt_of_le sY hb.size
 have sV:=Nat.lt_of_lt_of_le sV hb.size
 have sQ:=Nat.lt_of_lt_of_le sQ hb.size
 have sF:=Nat.lt_of_lt_of_le sF hb.size
 have sN:=Nat.lt_of_lt_of_le sN hb.size
 have ma:=ma.below hb
 have ga:=ga.below hb
 have B:=B.trans (hb.mono B.size)
 have hk:=hk.below hb
 obtain⟨rJ,hF,hF3,-⟩:=zt wc mz.toArray 52 j (by simp[hml,hl3])
 have rX:=zd rX hF sX
 have rK:=zd rK hF sK
 have rY:=zd rY hF sY
 have rV:=zd rV hF sV
 have rQ:=zd rQ hF sQ
 have rF:=zd rF hF sF
 have rN:=zd rN hF sN
 have sX:=Nat.lt_of_lt_of_le sX hF.size
 have sK:=Nat.lt_of_lt_of_le sK hF.size
 have sY:=Nat.lt_of_lt_of_le sY hF.size
 have sV:=Nat.lt_of_lt_of_le sV hF.size
 have sQ:=Nat.lt_of_lt_of_le sQ hF.size
 have sF:=Nat.lt_of_lt_of_le sF hF.size
 have sN:=Nat.lt_of_lt_of_le sN hF.size
 have ma:=ma.below hF
 have ga:=ga.below hF
 have oa:=oa.below hF
 have B:=B.trans (hF.mono B.size)
 have hk:=hk.below hF
 obtain⟨D7,hD7⟩:∃D,wc.heap.size=D:=⟨_,rfl⟩
 have sJ:wc.heap.size<((wc.alloc (.cells mz.toArray 52)).setCells wc.heap.size 0 j).heap.size:=by omega
 rw[hD7]at rJ sJ rX sX rK sK rY sY rV sV rQ sQ rF sF rN sN ma ga oa B hk
 simp only[hD7]
 obtain⟨v7,hv7⟩:∃W,(wc.alloc (.cells mz.toArray 52)).setCells D7 0 j=W:=⟨_,rfl⟩
 rw[hv7]at rJ sJ rX sX rK sK rY sY rV sV rQ sQ rF sF rN sN ma ga oa B hk
 rw[hv7]
 clear hv7 hD7 hF hF3
 clear hb
 have hB:Mg.B m g=true:=Mg.B_eqv m g (by rw[mp,gp])
 have cS:=zhI m g v7 mo go ma ga
 rw[hB,hq.out,hf.out]at cS
 clear hB mp gp op mo go oo ma ga oa hk cE cX cO cXO cEn cOn
 obtain⟨r2,hr2⟩:∃r,R.2=r:=⟨_,rfl⟩
 simp only[hr2]
 clear hr2
 go_upto_region 10 with fail
 refine pl_b ?_
 refine pl_v 77 (.agg yq.toArray) (zp rfl rfl rY underlying25 rfl iy) ?_
 refine pl_v 78 (.agg yq.toArray) (zp rfl rfl rV underlying25 rfl iy) ?_
 refine pl_v 79 (.bool true) (zd6 rfl rfl rfl (by kernel_rfl) (heq _)) ?_
 refine pl_a 80 ?_
 refine pl_a 81 ?_
 refine pl_a 82 ?_
 refine pl_v 83 (.bool true) (by go_simp<;>(try simp[*])) ?_
 refine pl_a 84 ?_
 refine pl_a 85 ?_
 refine pl_v 86 (.agg q.toArray) (zp rfl rfl rQ underlying52 rfl iq1) ?_
 refine pl_v 87 (.agg f.toArray) (zp rfl rfl rF underlying52 rfl iq2) ?_
 refine pl_c 88 ?_
 refine(cS).mono ?_
 rintro _ wd ⟨rfl,hb⟩
 refine⟨_,rfl,?_⟩
 simp only[nz]
 have B:=B.trans (hb.mono B.size)
 refine pl_a 89 ?_
 refine pl_a 90 ?_
 refine pl_a 91 ?_
 refine pl_a 92 ?_
 refine pl_v 93 (.bool true) (by go_simp<;>(try simp[*])) ?_
 refine pl_a 94 ?_
 refine pl_a 95 ?_
 refine pl_a 96 ?_
 refine pl_v 97 (.bool true) (by go_simp<;>(try simp[*])) ?_
 refine pl_a 98 ?_
 refine pl_a 99 ?_
 refine pl_a 100 ?_
 refine pl_v 101 (.bool true) (by go_simp<;>(try simp[*])) ?_
 refine pl_a 102 ?_
 refine pl_a 103 ?_
 refine pl_c 104 ?_
 refine(zdU wd (HG.out.below B)).mono ?_
 rintro _ wL ⟨rfl,hbL⟩
 refine⟨_,rfl,?_⟩
 simp only[nz]
 refine pl_a 105 ?_
 refine pl_a 8 ?_
 refine za ?_
 have HB:=hide (B.trans (hbL.mono B.size))
 clear B hb hbL cS rX rK rY rV rQ rF rN rJ
 go_wp2_with fail
 go_ret
 exact⟨rfl,HB.out⟩
open Go.ChangeShapes Go.WideShapes Go.ChangeAt Go.RowKit
set_option linter.constructorNameAsVariable false
theorem own:ownKnob prog.godebug=none:=by kernel_rfl
theorem laidOut:laidOutB prog=true:=by kernel_rfl
theorem wf64 {z:Int} (h:(Lit.int .i64 z).wf=true):-9223372036854775808≤z∧z≤9223372036854775807:=by
 simp only[Lit.wf,Bool.and_eq_true,decide_eq_true_eq]at h
 exact h
theorem zdx {α:Type} {xs:List α} {n i:Nat} (hl:xs.length=n) (hi:i<n):∃y,xs[i]? =some y:=⟨xs[i]'(by omega),List.getElem?_eq_getElem (by omega)⟩
theorem zlT {α:Type} {l:List α} {o:Nat} {v:α} (h:(l.drop o).take 1=[v]):l[o]? =some v:=by
 have:=congrArg (·[0]?) h
 simpa [List.getElem?_take,List.getElem?_drop]using this
section
variable {H : Type} {enc : TypeId × Value → H} {W : World} {b : Nat} {sp : Nat → Bool} {held : Bool} {m : Nat}
theorem zmi {t n:Nat} {l:List Value} {y:DataW H ×List MemPlace} (hu:prog.underlying t=some (.array n 5)) (hct:prog.cellsOf t=n) (h:DataW.trod enc prog W b sp held m t l=some y):∃zs:List Int,l=v8 zs∧zs.length=n∧∀z∈zs,0≤z∧z<256:=by
  have hce:prog.cellsOf 5=1:=by kernel_rfl
  cases m with
  |zero=>simp[DataW.trod]at h
  |succ m=>
    simp only[DataW.trod,hu,hce,hct,Nat.mul_one]at h
    split at h
    · rename_i hsz
      obtain⟨xs,hm,hx⟩:=Option.map_eq_some_iff.1 h
      have key:∀i,i<n→∃z,l[i]? =some (.int .u8 z)∧0≤z∧z<256:=fun i hi=>by
        obtain⟨y,hy,hf⟩:=Lib.mapM_at hm i i (by simp[hi])
        obtain⟨z,hc,rfl,hw⟩:=DataW.trod_int underlying5 hf
        refine⟨z,zlT hc,?_⟩
        simp[Lit.wf,IntKind.min,IntKind.max,IntKind.signed,IntKind.bits]at hw
        omega
      have hln:l.length=n:=by simpa using hsz
      refine⟨l.map (fun v=>match v with|.int _ z=>z|_=>0),?_,by simpa using hln,?_⟩
      · apply List.ext_getElem?
        intro i
        by_cases hi:i<n
        · obtain⟨z,hz,_⟩:=key i hi
          simp only[v8,List.map_map,List.getElem?_map,hz,Option.map_some]
          rfl
        · rw[List.getElem?_eq_none (by omega),List.getElem?_eq_none (by simp[v8];omega)]
      · intro z hz
        obtain⟨u,hu,rfl⟩:=List.mem_map.1 hz
        obtain⟨i,hi,rfl⟩:=List.mem_iff_getElem.1 hu
        obtain⟨z,hz,hb⟩:=key i (by omega)
        rw[List.getElem?_eq_getElem hi]at hz
        rw[Option.some.inj hz]
        exact hb
    · cases h
end
theorem ze1 {α:Type} (l:List α) (o n k:Nat):(l.drop o).take (n+k)=(l.drop o).take n++(l.drop (o+n)).take k:=by
 rw[List.take_add,List.drop_drop]
theorem ziz {α:Type} {l:List α} {n:Nat} (h:l.length=n):l=(l.drop 0).take n:=by
 rw[List.drop_zero,List.take_of_length_le (by omega)]
theorem zlN {H:Type} {enc:TypeId ×Value→H} {W:World} {b:Nat} {sp:Nat→Bool} {held:Bool} {fuel:Nat} {l:List Value} {x:DataW H ×List MemPlace}
  (h:DataW.trod enc prog W b sp held fuel 25 l=some x):∃r:Ev,l=EvE.f r∧EvE.ok r:=by
 have hct:prog.cellsOf 25=18:=by kernel_rfl
 obtain⟨xs,m,_,rfl,hcl,hl,hf⟩:=DataW.trod_struct underlying25 h
 rw[hct]at hcl
 have hl:xs.length=3:=hl
 have h0:DataW.trod enc prog W b sp held m 3 ((l.drop 0).take (prog.cellsOf 3))=xs[0]? :=hf 0 _ rfl
 rw[show prog.cellsOf 3=1 by kernel_rfl]at h0
 obtain⟨y0,e0⟩:=zdx hl (show 0<3 by omega)
 obtain⟨z0,g0,_,wz0⟩:=DataW.trod_int underlying3 (h0.trans e0)
 have bz0:=wf64 wz0
 have h1:DataW.trod enc prog W b sp held m 9 ((l.drop 1).take (prog.cellsOf 9))=xs[1]? :=hf 1 _ rfl
 rw[show prog.cellsOf 9=1 by kernel_rfl]at h1
 obtain⟨y1,e1⟩:=zdx hl (show 1<3 by omega)
 obtain⟨z1,g1,_,bz1⟩:=DataW.trod_string underlying9 (h1.trans e1)
 have h2:DataW.trod enc prog W b sp held m 23 ((l.drop 2).take (prog.cellsOf 23))=xs[2]? :=hf 2 _ rfl
 rw[show prog.cellsOf 23=16 by kernel_rfl]at h2
 obtain⟨y2,e2⟩:=zdx hl (show 2<3 by omega)
 obtain⟨z2,g2,lz2,bz2⟩:=zmi underlying23 (by kernel_rfl) (h2.trans e2)
 refine⟨⟨z0,z1,z2⟩,?_,⟨lz2,bz2,bz1,bz0.1,bz0.2⟩⟩
 have e:=ziz (n:=1+(1+(16))) hcl
 rw[ze1,ze1,g0,g1,g2]at e
 first|exact e|(rw[e];rfl)|(rw[e];simp)
end Go.Proofs.YtcbpbkefggekmaaGreatDoor
namespace Go.Proofs.YtcbpbkefggekmaaGreatDoor
open Go.ChangeShapes Go.WideShapes Go.ChangeAt Go.RowKit
open Sha
def zck {H : Type} : List (String × DataW H) := [("raddle/digest.starts", Rows.laid_raddle_digest_starts), ("raddle/digest.roots", Rows.laid_raddle_digest_roots)]
theorem gS : prog.globalNamed "raddle/digest.starts" = some 0 := by kernel_rfl
theorem gR : prog.globalNamed "raddle/digest.roots" = some 1 := by kernel_rfl
theorem tS:(prog.globals[0]?).map (·.type)=some 168:=by kernel_rfl
theorem tR:(prog.globals[1]?).map (·.type)=some 238:=by kernel_rfl
theorem zlU (os:Os) (args:Array Value):laidMetH prog zck ((World.doorLaid prog 400 os).forCall (fun _ _=>0) ⟨#[],args,[]⟩).memory:=
 laidMetH_of_parts3 (fuel:=8) (laidMet_of_run' 8 (by kernel_rfl) (by kernel_rfl)) (by kernel_rfl) (by kernel_rfl)
def startZ:List Int:=(list init).map fun x=>(x.toNat:Int)
def rootZ:List Int:=kl.map fun x=>(x.toNat:Int)
theorem ziN {H:Type}:(Rows.laid_raddle_digest_starts:DataW H)=Lib.tabData .u32 startZ:=by kernel_rfl
theorem zjf {H:Type}:(Rows.laid_raddle_digest_roots:DataW H)=Lib.tabData .u32 rootZ:=by kernel_rfl
theorem zld {W:World} (h:laidMetH prog zck W):Glob W:=by
 rw[MakeChecks.laidMetH_plain _ _ _ (by kernel_rfl)]at h
 obtain⟨ps,⟨g0,t0,cs0,f0,p0,q0,hg0,ht0,hv0,hd0,⟨g1,t1,cs1,f1,p1,q1,hg1,ht1,hv1,hd1,_,_⟩,_⟩,_,_⟩:=h
 obtain rfl:=Option.some.inj (gS.symm.trans hg0)
 obtain rfl:=Option.some.inj (gR.symm.trans hg1)
 obtain rfl:=Option.some.inj (tS.symm.trans ht0)
 obtain rfl:=Option.some.inj (tR.symm.trans ht1)
 rw[ziN]at hd0
 rw[zjf]at hd1
 have e0:=Lib.cells_of_tab underlying168 underlying167 (by kernel_rfl) (by kernel_rfl) hd0
 have e1:=Lib.cells_of_tab underlying238 underlying167 (by kernel_rfl) (by kernel_rfl) hd1
 have r0:W.rangeAt 0 0 (v32 (list init)):=fun j v hv=>by
  have:=World.var?_cell hg0 hv0 j
  rw[Nat.zero_add,this,←Array.getElem?_toList,e0]
  simpa [startZ,v32]using hv
 have r1:W.rangeAt 1 0 (v32 kl):=fun j v hv=>by
  have:=World.var?_cell hg1 hv1 j
  rw[Nat.zero_add,this,←Array.getElem?_toList,e1]
  simpa [rootZ,v32]using hv
 refine⟨r0,r1,?_⟩
 have:=World.block_lt_of_cell? W _ (r1 0 _ rfl)
 exact this
open Go.ChangeShapes Go.WideShapes Go.ChangeAt Go.RowKit
open Sha Tal
set_option linter.unusedVariables false
theorem zkf {H:Type} {enc:TypeId ×Value→H} {W:World} {base b:Nat} {sp:Nat→Bool} {held:Bool} {fuel:Nat} {v:Value} {x:DataW H ×List MemPlace} (hv:Value.okWide prog W .any base 25 v)
  (h:DataW.trod enc prog W b sp held fuel 25 v.cells.toList=some x):∃m:Ev,v=.agg m.cells.toArray∧m.ok:=by
 unfold Value.okWide at hv
 rw[underlying25]at hv
 obtain⟨cs,rfl,hsz,_⟩:=hv
 obtain⟨r,h1,h2⟩:=zlN h
 refine⟨r,?_,h2⟩
 simp only[Value.cells]at h1
 have h1:cs.toList=r.cells:=h1
 rw[←h1]
end Go.Proofs.YtcbpbkefggekmaaGreatDoor
namespace Go.Proofs.YtcbpbkefggekmaaGreatDoor.envelopeSeals
open Go.ChangeShapes Go.WideShapes Go.ChangeAt Go.RowKit
open Go.ChangeMaps (open_string shut_string)
set_option linter.unusedVariables false
theorem lifted (os:Os) (started:os.Started) (H:Type) (enc:TypeId ×Value→H):
  ReturnsInHanded {} checked os 3 .any (fun w args=>(Rows.envelopeSealsSpec.pre enc prog Tryz.f3 [] false w args∧laidMetH prog zck w)∧sizedMet enc prog Tryz.f3 (OpenSpec.ofChange Rows.envelopeSealsSpec) false w args)
   (Rows.envelopeSealsSpec.post enc prog Tryz.f3 false true false false):=by
 refine returnsInHanded_of_change_and (C:=checked) (X:=fun w _=>laidMetH prog zck w) (fun _ _ _ hh h=>h.of_heap hh) own started (by kernel_rfl) func3
  (ChangeSpec.witness_shaped (enc:=enc) (C:=checked) (os:=os) (X:=fun w _=>laidMetH prog zck w) false (World.doorLaid prog 400 os) #[.int .i64 0,.int .i64 0,.string ByteArray.empty,.agg #[.int .i64 0,.string ByteArray.empty,.int .u8 0,.int .u8 0,.int .u8 0,.int .u8 0,.int .u8 0,.int .u8 0,.int .u8 0,.int .u8 0,.int .u8 0,.int .u8 0,.int .u8 0,.int .u8 0,.int .u8 0,.int .u8 0,.int .u8 0,.int .u8 0]] 8 rfl (World.shaped_of_RefB (by kernel_rfl) (by kernel_rfl)) (by kernel_rfl) (by kernel_rfl) (by kernel_rfl) (zlU os _)) ?_
 intro W base args ds gs before hval0 hW _ _ hL _
 have hval:∀(j:Nat) t v,Tryz.f3.params[j]? =some t→args[j]? =some v→Value.okWide prog W .any base t v:=hval0
 have hW':=hW
 obtain⟨p,q,hA0,hV,rfl,hfz,hnd⟩:=hW
 have hA:DataW.TrodAll enc prog W 0 (fun _=>true) true Tryz.f3.params.toList args.toList ds p:=hA0
 rw[params3]at hA hval
 obtain⟨v0,vs0,d0,ds0,p0,q0,hargs,rfl,rfl,h0,r0⟩:=trodAll_cons hA
 obtain⟨v1,vs1,d1,ds1,p1,q1,rfl,rfl,rfl,h1,r1⟩:=trodAll_cons r0
 obtain⟨v2,vs2,d2,ds2,p2,q2,rfl,rfl,rfl,h2,r2⟩:=trodAll_cons r1
 obtain⟨v3,vs3,d3,ds3,p3,q3,rfl,rfl,rfl,h3,r3⟩:=trodAll_cons r2
 obtain⟨rfl,rfl,rfl⟩:=trodAll_nil r3
 obtain rfl:args=#[v0,v1,v2,v3]:=by cases args;simp_all
 obtain⟨rfl,rfl⟩:=trodVars_none hV
 have k0:=h0
 have lt0:∀x∈p0,x.block<W.heap.size:=by obtain⟨m,hm⟩:=k0;exact DataW.trod_lt m _ _ _ hm
 have k1:=h1
 have lt1:∀x∈p1,x.block<W.heap.size:=by obtain⟨m,hm⟩:=k1;exact DataW.trod_lt m _ _ _ hm
 have k2:=h2
 have lt2:∀x∈p2,x.block<W.heap.size:=by obtain⟨m,hm⟩:=k2;exact DataW.trod_lt m _ _ _ hm
 have k3:=h3
 have lt3:∀x∈p3,x.block<W.heap.size:=by obtain⟨m,hm⟩:=k3;exact DataW.trod_lt m _ _ _ hm
 obtain⟨n0,rfl,rfl,rfl,hn0⟩:=open_int underlying3 (hval 0 3 v0 rfl rfl) h0
 obtain⟨n1,rfl,rfl,rfl,hn1⟩:=open_int underlying3 (hval 1 3 v1 rfl rfl) h1
 obtain⟨s2,rfl,rfl,rfl,hs2⟩:=open_string underlying9 (hval 2 9 v2 rfl rfl) h2
 obtain⟨fuel3,hf3⟩:=h3
 obtain⟨x3,rfl,ok3⟩:=zkf (hval 3 25 v3 rfl rfl) hf3
 have hG:=zld hL
 clear hA0 hval0
 refine(zlM n0 n1 s2 x3 W (zif hn0) ok3 hG).mono fun e W' ⟨he,bel⟩=>?_
 subst he
 exact⟨_,rfl,_,_,_,[],_,[],hW',trodAll_mk1 (shut_bool underlying4 _),(trodAll_cons_mk (Below.trod laidOut (by kernel_rfl) (of_decide_eq_true (by kernel_rfl)) k0 bel lt0) (trodAll_cons_mk (Below.trod laidOut (by kernel_rfl) (of_decide_eq_true (by kernel_rfl)) k1 bel lt1) (trodAll_cons_mk (Below.trod laidOut (by kernel_rfl) (of_decide_eq_true (by kernel_rfl)) k2 bel lt2) (trodAll_cons_mk (Below.trod laidOut (by kernel_rfl) (of_decide_eq_true (by kernel_rfl)) k3 bel lt3) trodAll_mk0)))),rfl,bel.frame _,fun h=>by cases h⟩
theorem over:Rows.EnvelopeSealsSaid:=
 OpenClaim.holds_of_wide 3 Tryz.f3 rfl rfl rfl rfl rfl rfl rfl ⟨rfl,rfl,rfl,rfl,rfl⟩ rfl rfl rfl rfl rfl (by kernel_rfl) func3 (by kernel_rfl)
  (of_decide_eq_true (by kernel_rfl)) (by unfold Func.isWrapper;first|(rw[if_pos (by decide+kernel)];kernel_rfl)|(rw[if_neg (by decide+kernel)];exact⟨rfl,rfl⟩))
  (fun os started H enc _=>lifted os started H enc)
end Go.Proofs.YtcbpbkefggekmaaGreatDoor.envelopeSeals
namespace Go.Proofs.YtcbpbkefggekmaaGreatDoor
theorem envelopeSeals_card:Rows.EnvelopeSealsCardSaid:=
 Claim7.holds_tied_plain_at .later [] [.data, .data] true (true, "25d2a5b30884e3b71ad816cffc66fba19366bef644f7b28281847e0f0242141c") false
  envelopeSeals.over (fun _ h=>by cases h) (by kernel_rfl) (fun _ h=>by cases h) envelopeSeals_row_tie rfl ⟨rfl,rfl⟩ (by kernel_rfl) rfl
  (fun f fn hf hfn=>by
   obtain rfl : f = 3 := Option.some.inj ((show prog.funcNamed "raddle/raddlelaw14.EnvelopeSeals" = some 3 by kernel_rfl).symm.trans hf) |>.symm
   obtain rfl:fn=Tryz.f3:=(Option.some.inj (func3.symm.trans hfn)).symm
   exact⟨by kernel_rfl,fun j t ht=>by
    rw[params3]at ht
    rcases j with _|_|_|_|j
    ·obtain rfl:t=3:=by simpa using ht.symm
     exact(show prog.wantsStandIn 3=false by kernel_rfl)
    ·obtain rfl:t=3:=by simpa using ht.symm
     exact(show prog.wantsStandIn 3=false by kernel_rfl)
    ·obtain rfl:t=9:=by simpa using ht.symm
     exact(show prog.wantsStandIn 9=false by kernel_rfl)
    ·obtain rfl:t=25:=by simpa using ht.symm
     exact(show prog.wantsStandIn 25=false by kernel_rfl)
    ·simp at ht⟩)
  (by kernel_rfl)
#print axioms envelopeSeals_card
end Go.Proofs.YtcbpbkefggekmaaGreatDoor
