/- Open, the program's; EnvelopeSealed: what Open answers of what was sealed; EnvelopeSealed -/
import Derived.Test.YtcbpbkefggekmaaGreatDoorJS0
import Derived.Test.YtcbpbkefggekmaaGreatDoorJS17
import Derived.Test.YtcbpbkefggekmaaGreatDoorJS14
import Derived.Test.YtcbpbkefggekmaaGreatDoorJS5
import Derived.Test.YtcbpbkefggekmaaGreatDoorJS16
import Derived.Test.YtcbpbkefggekmaaGreatDoorJS11
import Derived.Test.YtcbpbkefggekmaaGreatDoorJS8
import Derived.Test.YtcbpbkefggekmaaGreatDoorJS10
import Derived.Deep.DeepCutAuto
set_option maxHeartbeats 8000000
set_option maxRecDepth 100000
open Go.Proofs.Tryz
namespace Go.Proofs.YtcbpbkefggekmaaGreatDoor
open Go.RowKit
open Sha Tal
set_option linter.unusedVariables false
set_option linter.unusedSimpArgs false
theorem zdm {P:Program} {o:Oper} {a:Act} {w:World} {op:BinOp} {t t2:TypeId} {x y:Operand} {u v:Array Value} {r:Value} (ho:o.op=.binOp op t x y t2) (hx:a.eval x=.agg u) (hy:a.eval y=.agg v) (hm:P.eqGuardType P.depth t=false) (hr:(binOp op t (.agg u) (.agg v)).run P w=.ok r w):(execOp a.eval o).run P w=.ok (.value r) w:=by
 unfold execOp
 simp only[ho,hx,hy,Sem.run_bind,run_eqGuard_agg w op t x y u v hm,Result.andThen_ok,hr,Sem.run_pure]
open Qs (KeysAt signOf checkOf zaU)
theorem znz (x y:Ev) (hx:x.ok) (hy:y.ok) (w:World):(binOp .neq 25 (.agg x.cells.toArray) (.agg y.cells.toArray)).run prog w=.ok (.bool (!(Ev.B x y))) w:=by
 rw[run_neq_struct,Ev.eq10 x y hx hy w];rfl
def openO (r:List Int ×Int) (N:Int) (x:Ev):Mp ×Int:=if x.n<0∨N≤x.n∨checkOf r x.t=false then(Mp.none,140)else decS (strL x.s)
def openP (ds:List (List Int)) (N:Int) (x:Ev):Mp ×Int:=if ds=[]then(Mp.none,1)else openO (signOf ds x.n x.s) N x
def OpenA (R:Mp ×Int) (w:World) (en:Ending) (w':World):Prop:=∃m:Mg,en=.returned (.tuple #[.agg m.ms.cells.toArray,.int .i64 R.2])∧m.pure=R.1∧m.ok∧m.At w'∧Below w.heap.size w w'
theorem zjg {r:List Int ×Int} {n:Int} {sb:ByteArray} (h1:r.1.length=16) (h2:∀z∈r.1,0≤z∧z<256) (h3:sb.size≤maxLen) (h4:-9223372036854775808≤n) (h5:n≤9223372036854775807):(sealO r n sb).1.ok:=by
 unfold sealO
 split
 ·exact⟨h1,h2,h3,h4,h5⟩
 ·exact zl4
theorem zjd {r:List Int ×Int} {x:Ev} (h:checkOf r x.t=true):sealO r x.n x.s=(x,0):=by
 unfold checkOf at h
 rw[Bool.and_eq_true]at h
 have h1:r.2=0:=by simpa using h.1
 have h2:r.1=x.t:=by simpa using h.2
 unfold sealO
 rw[if_pos h1,h2]
theorem zje {r:List Int ×Int} {x:Ev} (h:checkOf r x.t=false) (h0:(sealO r x.n x.s).2=0):Ev.B (sealO r x.n x.s).1 x=false:=by
 have hr:r.2=0:=by
  unfold sealO at h0
  split at h0
  ·assumption
  ·exact h0
 apply Bool.eq_false_iff.2
 intro hB
 have e:=Ev.B_iff.1 hB
 unfold sealO at e
 rw[if_pos hr]at e
 have e2:r.1=x.t:=congrArg Ev.t e
 unfold checkOf at h
 rw[hr,e2]at h
 simp at h
theorem zes (p:Option Addr) (ds:List (List Int)) (N:Int) (x:Ev) (w:World) (hG:Glob w) (hk:KeysAt w p ds) (hx:x.ok) (hs:x.s.size≤40000):Calls prog 12 #[.pointer p,.int .i64 N,.agg x.cells.toArray] w (OpenA (openP ds N x) w):=by
 unfold OpenA
 obtain⟨zc,hzc,hzl,hz1,hzr,hb0⟩:∃z:List Value,Hid (z=Mg.none.ms.cells)∧z.length=119∧(∀v∈z,v.oneCell'=true)∧(∀w:World,(zeroValue 52).run prog w=.ok (.agg z.toArray) w)∧∀w:World,(Instr.build 52 #[]).run prog w=.ok (.agg z.toArray) w:=⟨_,hide rfl,Mg.none_ok.ms.len,Mg.none_ok.ms.one,zeroM,zhH⟩
 have hiz:(prog.info? 52).map (·.size)=some zc.length:=by rw[hzl];exact iszM
 have hxl:x.cells.length=18:=EvE.len x hx
 have hx1:∀v∈x.cells,v.oneCell'=true:=EvE.one x
 have ix:(prog.info? 25).map (·.size)=some x.cells.length:=by rw[hxl];exact zbD
 have e0:x.cells[0]? =some (.int .i64 x.n):=rfl
 have e1:x.cells[1]? =some (.string x.s):=rfl
 obtain⟨ez,hez⟩:∃z:List Value,(∀w:World,(zeroValue 25).run prog w=.ok (.agg z.toArray) w)∧z.length=18:=⟨evZ.cells,zds,rfl⟩
 obtain⟨hez,hel⟩:=hez
 have cS0:=fun w0 g k=>zhi p ds x.n x.s w0 g k hs
 have cD0:=fun w0=>zex x.s hs w0
 have yok:(sealO (signOf ds x.n x.s) x.n x.s).1.ok:=zjg (Qs.zaN _ _ _) (Qs.zca _ _ _) hx.sl hx.nl hx.nh
 have hyes:=@zjd (signOf ds x.n x.s) x
 have hno:=@zje (signOf ds x.n x.s) x
 have hne0:=fun w0=>znz _ x yok hx w0
 have HO:Hid ((ds=[]→openP ds N x=(Mp.none,1))∧(ds≠[]→(x.n<0∨N≤x.n∨checkOf (signOf ds x.n x.s) x.t=false)→openP ds N x=(Mp.none,140))∧(ds≠[]→¬x.n<0→¬N≤x.n→checkOf (signOf ds x.n x.s) x.t=true→openP ds N x=decS (strL x.s))):=by
  refine hide ⟨fun h=>?_,fun h k=>?_,fun h k1 k2 k3=>?_⟩
  ·unfold openP;rw[if_pos h]
  ·unfold openP openO;rw[if_neg h,if_pos k]
  ·unfold openP openO;rw[if_neg h,if_neg (fun k=>by rcases k with k|k|k;exact k1 k;exact k2 k;rw[k3]at k;cases k)]
 obtain⟨G,hG0⟩:∃G,Hid (openP ds N x=G):=⟨_,hide rfl⟩
 rw[hG0.out]at HO ⊢
 obtain⟨DD,hDD⟩:∃D,Hid (decS (strL x.s)=D):=⟨_,hide rfl⟩
 rw[hDD.out]at HO
 simp only[hDD.out]at cD0
 obtain⟨ck,hck⟩:∃c,Hid (checkOf (signOf ds x.n x.s) x.t=c):=⟨_,hide rfl⟩
 rw[hck.out]at HO hyes hno
 obtain⟨⟨y,ye⟩,hy⟩:∃r,Hid (sealO (signOf ds x.n x.s) x.n x.s=r):=⟨_,hide rfl⟩
 rw[hy.out]at hyes hno yok
 simp only[hy.out]at cS0 hne0
 have hno:ck=false→ye=0→Ev.B y x=false:=hno
 have hyes:ck=true→(y,ye)=(x,0):=hyes
 have HY:=hide hyes
 have HN:=hide hno
 have hyl:y.cells.length=18:=EvE.len y yok
 have hy1:∀v∈y.cells,v.oneCell'=true:=EvE.one y
 have iy:(prog.info? 25).map (·.size)=some y.cells.length:=by rw[hyl];exact zbD
 obtain⟨bB,hbB⟩:∃b,Hid (Ev.B y x=b):=⟨_,hide rfl⟩
 simp only[hbB.out]at hne0
 obtain⟨xq,hxq⟩:∃q,Hid (x.cells=q):=⟨_,hide rfl⟩
 obtain⟨yq,hyq⟩:∃q,Hid (y.cells=q):=⟨_,hide rfl⟩
 simp only[hxq.out,hyq.out]at hxl hx1 ix e0 e1 hyl hy1 iy cS0 hne0 ⊢
 obtain⟨xn,hxn⟩:∃n,Hid (x.n=n):=⟨_,hide rfl⟩
 obtain⟨xs,hxs⟩:∃n,Hid (x.s=n):=⟨_,hide rfl⟩
 rw[hxn.out]at e0 HO
 rw[hxs.out]at e1
 simp only[hxn.out,hxs.out]at cS0 cD0
 obtain⟨L,hL⟩:∃L:Int,(ds.length:Int)=L:=⟨_,rfl⟩
 have HD:Hid ((L=0→ds=[])∧(L≠0→ds≠[])):=hide ⟨fun h=>List.length_eq_zero_iff.1 (by omega),fun h k=>h (by rw[←hL,k];rfl)⟩
 obtain⟨hBk,rX,sK⟩:=zA w xq 25
 have eA:(w.alloc (.cells xq.toArray 25)).heap.size=w.heap.size+1:=by simp
 clear hyes hno hs hx yok hy hck hDD hG0
 go_enter func12,ntmps12
 go_upto_region 0 with fail
 refine pl_b ?_
 refine pl_r 5 (.pointer (some ⟨w.heap.size,0,none⟩)) (w.alloc (.cells xq.toArray 25)) (zhg rfl rfl) ?_
 refine pl_r 6 (.pointer (some ⟨(w.alloc (.cells xq.toArray 25)).heap.size,0,none⟩)) ((w.alloc (.cells xq.toArray 25)).alloc (.cells zc.toArray 52)) (zr rfl (hzr _)) ?_
 refine pl_a 7 ?_
 refine zb ?_
 obtain⟨hB1,-,hs1⟩:=zA (w.alloc (.cells xq.toArray 25)) zc 52
 have tT:=zn (w.alloc (.cells xq.toArray 25)) zc.toArray 52 (n:=119) (by simp[hzl])
 have B1:=hBk.trans (hB1.mono hBk.size)
 have rX:=za rX hB1 (by omega)
 obtain⟨A,hA⟩:∃A,(w.alloc (.cells xq.toArray 25)).heap.size=A:=⟨_,rfl⟩
 rw[hA]at hB1 hs1 tT eA
 simp only[hA]
 have hAw:w.heap.size≤A:=by omega
 have hwA:w.heap.size<A:=by omega
 obtain⟨W1,hW1⟩:∃W,(w.alloc (.cells xq.toArray 25)).alloc (.cells zc.toArray 52)=W:=⟨_,rfl⟩
 rw[hW1]at hB1 hs1 tT B1 rX ⊢
 have k1:=hk.below B1
 have g1:=hG.below B1
 have c0:W1.cell? ⟨w.heap.size,0,none⟩=some (.int .i64 xn):=rX 0 _ e0
 have c1:W1.cell? ⟨w.heap.size,1,none⟩=some (.string xs):=rX 1 _ e1
 clear hW1 hzr hA eA sK hBk hB1 hG hk
 go_upto_region 1 with fail
 by_cases hL0:L=0
 ·have hR:G=(Mp.none,1):=HO.out.1 (HD.out.1 hL0)
  subst hL0
  refine pl_b ?_
  refine pl_a 11 ?_
  refine pl_c 12 ?_
  refine(Qs.zbl p ds W1 k1).mono ?_
  rintro _ w2 ⟨hv,hw2⟩
  obtain rfl:=hw2.symm
  rw[hL]at hv
  subst hv
  refine⟨_,rfl,?_⟩
  simp only[nz]
  refine pl_v 13 (.bool true) (by go_simp<;>(try simp[*])) ?_
  refine pl_a 10 ?_
  refine zb ?_
  clear HO HD cS0 cD0 HY HN
  go_upto_region 2 with fail
  refine pl_b ?_
  refine pl_v 14 (.agg zc.toArray) (zT (parts:=[]) rfl rfl (hb0 _)) ?_
  refine pl_s (W1.setCells A 0 zc) (zo (cs:=zc.toArray) rfl rfl rfl (by simpa [hzl]using tT) (by simpa using hiz) (zp hz1)) ?_
  refine pl_a 7 ?_
  refine zb ?_
  have hrs:=run_loadVar_mid (P:=prog) (W1.setCells A 0 zc) A 0 52 zc _ (World.rangeAt_setCells_same W1 A 0 zc (by rw[hzl];exact tT)) underlying52 rfl hiz
  have HF:Hid (∃g:Mg,Ending.returned (.tuple #[.agg zc.toArray,.int .i64 1])=.returned (.tuple #[.agg g.ms.cells.toArray,.int .i64 G.2])∧g.pure=G.1∧g.ok∧g.At (W1.setCells A 0 zc)∧Below w.heap.size w (W1.setCells A 0 zc)):=hide ⟨Mg.none,by rw[hR,hzc.out],by rw[hR];rfl,Mg.none_ok,Mg.none_at _,zi hAw _ _ _ B1⟩
  clear tT B1 hR c0 c1 rX
  go_wp2_with fail
  refine bodyPost_ret (zaT rfl _ _ _ rfl hrs) rfl ?_
  exact HF.out
 ·have hd:=HD.out.2 hL0
  have H1:=hide (HO.out.2.1 hd)
  have H2:=hide (HO.out.2.2 hd)
  clear HO HD hd
  refine pl_b ?_
  refine pl_a 11 ?_
  refine pl_c 12 ?_
  refine(Qs.zbl p ds W1 k1).mono ?_
  rintro _ w2 ⟨hv,hw2⟩
  obtain rfl:=hw2.symm
  rw[hL]at hv
  subst hv
  refine⟨_,rfl,?_⟩
  simp only[nz]
  refine pl_v 13 (.bool false) (by go_simp<;>(try simp[*])) ?_
  refine pl_a 10 ?_
  refine zb ?_
  clear hL0
  go_upto_region 3 with fail
  by_cases h0:xn<0
  ·have hR:G=(Mp.none,140):=H1.out (.inl h0)
   clear H1 H2 cS0 cD0 HY HN
   refine pl_b ?_
   refine pl_v 16 (.pointer (some ⟨w.heap.size,0,none⟩)) (by go_simp<;>(try simp[*])) ?_
   refine pl_v 17 (.int .i64 xn) (zf rfl rfl c0 underlying3 rfl) ?_
   refine pl_v 18 (.bool true) (by go_simp<;>(try simp[*])) ?_
   refine pl_a 19 ?_
   refine pl_k 20 ?_
   refine pl_k 21 ?_
   refine pl_k 22 ?_
   refine pl_k 23 ?_
   refine pl_a 24 ?_
   refine pl_a 15 ?_
   refine zb ?_
   clear h0
   go_upto_region 4 with fail
   refine pl_b ?_
   refine pl_v 25 (.agg zc.toArray) (zT (parts:=[]) rfl rfl (hb0 _)) ?_
   refine pl_s (W1.setCells A 0 zc) (zo (cs:=zc.toArray) rfl rfl rfl (by simpa [hzl]using tT) (by simpa using hiz) (zp hz1)) ?_
   refine pl_a 7 ?_
   refine zb ?_
   have hrs:=run_loadVar_mid (P:=prog) (W1.setCells A 0 zc) A 0 52 zc _ (World.rangeAt_setCells_same W1 A 0 zc (by rw[hzl];exact tT)) underlying52 rfl hiz
   have HF:Hid (∃g:Mg,Ending.returned (.tuple #[.agg zc.toArray,.int .i64 140])=.returned (.tuple #[.agg g.ms.cells.toArray,.int .i64 G.2])∧g.pure=G.1∧g.ok∧g.At (W1.setCells A 0 zc)∧Below w.heap.size w (W1.setCells A 0 zc)):=hide ⟨Mg.none,by rw[hR,hzc.out],by rw[hR];rfl,Mg.none_ok,Mg.none_at _,zi hAw _ _ _ B1⟩
   clear tT B1 hR c0 c1 rX
   go_wp2_with fail
   refine bodyPost_ret (zaT rfl _ _ _ rfl hrs) rfl ?_
   exact HF.out
  ·by_cases h1:N≤xn
   ·have hR:G=(Mp.none,140):=H1.out (.inr (.inl h1))
    clear H1 H2 cS0 cD0 HY HN
    refine pl_b ?_
    refine pl_v 16 (.pointer (some ⟨w.heap.size,0,none⟩)) (by go_simp<;>(try simp[*])) ?_
    refine pl_v 17 (.int .i64 xn) (zf rfl rfl c0 underlying3 rfl) ?_
    refine pl_v 18 (.bool false) (by go_simp<;>(try simp[*])) ?_
    refine pl_a 19 ?_
    refine pl_v 20 (.pointer (some ⟨w.heap.size,0,none⟩)) (by go_simp<;>(try simp[*])) ?_
    refine pl_v 21 (.int .i64 xn) (zf rfl rfl c0 underlying3 rfl) ?_
    refine pl_a 22 ?_
    refine pl_v 23 (.bool true) (by go_simp<;>(try simp[*])) ?_
    refine pl_a 24 ?_
    refine pl_a 15 ?_
    refine zb ?_
    clear h0 h1
    go_upto_region 4 with fail
    refine pl_b ?_
    refine pl_v 25 (.agg zc.toArray) (zT (parts:=[]) rfl rfl (hb0 _)) ?_
    refine pl_s (W1.setCells A 0 zc) (zo (cs:=zc.toArray) rfl rfl rfl (by simpa [hzl]using tT) (by simpa using hiz) (zp hz1)) ?_
    refine pl_a 7 ?_
    refine zb ?_
    have hrs:=run_loadVar_mid (P:=prog) (W1.setCells A 0 zc) A 0 52 zc _ (World.rangeAt_setCells_same W1 A 0 zc (by rw[hzl];exact tT)) underlying52 rfl hiz
    have HF:Hid (∃g:Mg,Ending.returned (.tuple #[.agg zc.toArray,.int .i64 140])=.returned (.tuple #[.agg g.ms.cells.toArray,.int .i64 G.2])∧g.pure=G.1∧g.ok∧g.At (W1.setCells A 0 zc)∧Below w.heap.size w (W1.setCells A 0 zc)):=hide ⟨Mg.none,by rw[hR,hzc.out],by rw[hR];rfl,Mg.none_ok,Mg.none_at _,zi hAw _ _ _ B1⟩
    clear tT B1 hR c0 c1 rX
    go_wp2_with fail
    refine bodyPost_ret (zaT rfl _ _ _ rfl hrs) rfl ?_
    exact HF.out
   ·have H3:=hide (H2.out h0 h1)
    have H4:=hide (fun h=>H1.out (.inr (.inr h)))
    refine pl_b ?_
    refine pl_v 16 (.pointer (some ⟨w.heap.size,0,none⟩)) (by go_simp<;>(try simp[*])) ?_
    refine pl_v 17 (.int .i64 xn) (zf rfl rfl c0 underlying3 rfl) ?_
    refine pl_v 18 (.bool false) (by go_simp<;>(try simp[*])) ?_
    refine pl_a 19 ?_
    refine pl_v 20 (.pointer (some ⟨w.heap.size,0,none⟩)) (by go_simp<;>(try simp[*])) ?_
    refine pl_v 21 (.int .i64 xn) (zf rfl rfl c0 underlying3 rfl) ?_
    refine pl_a 22 ?_
    refine pl_v 23 (.bool false) (by go_simp<;>(try simp[*])) ?_
    refine pl_a 24 ?_
    refine pl_a 15 ?_
    refine zb ?_
    clear h0 h1 H1 H2
    go_upto_region 5 with fail
    have cS:=cS0 W1 g1 k1
    clear cS0
    refine pl_b ?_
    refine pl_a 27 ?_
    refine pl_v 28 (.pointer (some ⟨w.heap.size,0,none⟩)) (by go_simp<;>(try simp[*])) ?_
    refine pl_v 29 (.int .i64 xn) (zf rfl rfl c0 underlying3 rfl) ?_
    refine pl_v 30 (.pointer (some ⟨w.heap.size,1,none⟩)) (by go_simp<;>(try simp[*])) ?_
    refine pl_v 31 (.string xs) (zf rfl rfl c1 underlying9 rfl) ?_
    refine pl_c 32 ?_
    refine(cS).mono ?_
    rintro _ w2 ⟨rfl,hb2⟩
    refine⟨_,rfl,?_⟩
    simp only[nz]
    refine pl_a 26 ?_
    refine pl_a 33 ?_
    refine pl_a 34 ?_
    refine pl_r 8 (.pointer (some ⟨w2.heap.size,0,none⟩)) (w2.alloc (.cells ez.toArray 25)) (zr rfl (hez _)) ?_
    refine pl_s ((w2.alloc (.cells ez.toArray 25)).setCells w2.heap.size 0 yq) (zo (cs:=yq.toArray) rfl rfl rfl (zn _ _ _ (by simp[hel,hyl])) (by simpa using iy) (zp hy1)) ?_
    refine pl_a 9 ?_
    refine zb ?_
    obtain⟨rY,hF,hF3,-⟩:=zq w2 ez.toArray 25 yq (by simp[hel,hyl])
    have B2:=B1.trans (hb2.mono B1.size)
    have s2:=Nat.lt_of_lt_of_le hs1 hb2.size
    have tT:=zg (zg tT hb2 hs1) hF s2
    have rX:=za (za rX hb2 (by omega)) hF (by omega)
    have s3:=Nat.lt_of_lt_of_le s2 hF.size
    have B3:=B2.trans (hF.mono B2.size)
    obtain⟨D,hD⟩:∃D,w2.heap.size=D:=⟨_,rfl⟩
    rw[hD]at rY B3 tT rX s3
    simp only[hD]
    obtain⟨w3,hw3⟩:∃W,(w2.alloc (.cells ez.toArray 25)).setCells D 0 yq=W:=⟨_,rfl⟩
    rw[hw3]at rY B3 tT rX s3 ⊢
    clear hw3 hD hF hF3 hb2 B2 cS k1 g1 B1 hs1 c0 c1 s2
    have c1:w3.cell? ⟨w.heap.size,1,none⟩=some (.string xs):=rX 1 _ e1
    go_upto_region 6 with fail
    by_cases hc:ck=true
    ·have hR:G=DD:=H3.out hc
     have e:=HY.out hc
     have e1':y=x:=congrArg Prod.fst e
     have e2':ye=0:=congrArg Prod.snd e
     have hb:bB=false∨bB=true:=by cases bB;exact .inl rfl;exact .inr rfl
     have hbt:bB=true:=by rw[←hbB.out,e1'];exact Ev.B_iff.2 rfl
     clear e HY HN H3 H4 hc hb e1'
     subst hbt
     subst e2'
     refine pl_b ?_
     refine pl_a 35 ?_
     refine pl_v 36 (.bool false) (by go_simp<;>(try simp[*])) ?_
     refine pl_a 37 ?_
     refine pl_v 38 (.agg yq.toArray) (zm rfl rfl rY underlying25 rfl iy) ?_
     refine pl_v 39 (.agg xq.toArray) (zm rfl rfl rX underlying25 rfl ix) ?_
     refine pl_v 40 (.bool false) (zdm rfl rfl rfl (by kernel_rfl) (hne0 _)) ?_
     refine pl_a 41 ?_
     refine zb ?_
     go_upto_region 8 with fail
     refine pl_b ?_
     refine pl_v 43 (.pointer (some ⟨w.heap.size,1,none⟩)) (by go_simp<;>(try simp[*])) ?_
     refine pl_v 44 (.string xs) (zf rfl rfl c1 underlying9 rfl) ?_
     refine pl_c 45 ?_
     refine(cD0 w3).mono ?_
     rintro _ w4 ⟨m,rfl,hmp,hmo,hmA,hmB,hb4⟩
     have hql:=hmo.ms.len
     have hq1:=hmo.ms.one
     have hiq:(prog.info? 52).map (·.size)=some m.ms.cells.length:=by rw[hql];exact iszM
     obtain⟨q,hqq⟩:∃q,Hid (m.ms.cells=q):=⟨_,hide rfl⟩
     simp only[hqq.out]at hql hq1 hiq ⊢
     have tT:=zg tT hb4 s3
     have B4:=B3.trans (hb4.mono B3.size)
     have A9:=fun vs=>Mg.At.put (o:=0) (vs:=vs) hmA (hmB.mono (fun b (hb:w3.heap.size≤b)=>show A<b by omega))
     have HM:=hide (show m.pure=DD.1∧m.ok from⟨hmp,hmo⟩)
     clear hmp hmo hmA hmB hb4 B3 s3 c1 rX rY cD0
     refine⟨_,rfl,?_⟩
     simp only[nz]
     refine pl_a 46 ?_
     refine pl_a 47 ?_
     refine pl_s (w4.setCells A 0 q) (zo (cs:=q.toArray) rfl rfl rfl (by simpa [hql]using tT) (by simpa using hiq) (zp hq1)) ?_
     refine pl_a 7 ?_
     refine zb ?_
     have hrs:=run_loadVar_mid (P:=prog) (w4.setCells A 0 q) A 0 52 q _ (World.rangeAt_setCells_same w4 A 0 q (by rw[hql];exact tT)) underlying52 rfl hiq
     have HF:Hid (∃g:Mg,Ending.returned (.tuple #[.agg q.toArray,.int .i64 DD.2])=.returned (.tuple #[.agg g.ms.cells.toArray,.int .i64 G.2])∧g.pure=G.1∧g.ok∧g.At (w4.setCells A 0 q)∧Below w.heap.size w (w4.setCells A 0 q)):=hide ⟨m,by rw[hqq.out,hR],by rw[hR];exact HM.out.1,HM.out.2,A9 q,zi hAw _ _ _ B4⟩
     clear tT B4 hR HM A9 hqq
     go_wp2_with fail
     refine bodyPost_ret (zaT rfl _ _ _ rfl hrs) rfl ?_
     exact HF.out
    ·have hc:ck=false:=by simpa using hc
     have hR:G=(Mp.none,140):=H4.out hc
     by_cases hye:ye=0
     ·have hbf:bB=false:=by rw[←hbB.out];exact HN.out hc hye
      clear HY HN H3 H4 hc
      subst hbf
      subst hye
      refine pl_b ?_
      refine pl_a 35 ?_
      refine pl_v 36 (.bool false) (by go_simp<;>(try simp[*])) ?_
      refine pl_a 37 ?_
      refine pl_v 38 (.agg yq.toArray) (zm rfl rfl rY underlying25 rfl iy) ?_
      refine pl_v 39 (.agg xq.toArray) (zm rfl rfl rX underlying25 rfl ix) ?_
      refine pl_v 40 (.bool true) (zdm rfl rfl rfl (by kernel_rfl) (hne0 _)) ?_
      refine pl_a 41 ?_
      refine zb ?_
      go_upto_region 7 with fail
      refine pl_b ?_
      refine pl_v 42 (.agg zc.toArray) (zT (parts:=[]) rfl rfl (hb0 _)) ?_
      refine pl_s (w3.setCells A 0 zc) (zo (cs:=zc.toArray) rfl rfl rfl (by simpa [hzl]using tT) (by simpa using hiz) (zp hz1)) ?_
      refine pl_a 7 ?_
      refine zb ?_
      have hrs:=run_loadVar_mid (P:=prog) (w3.setCells A 0 zc) A 0 52 zc _ (World.rangeAt_setCells_same w3 A 0 zc (by rw[hzl];exact tT)) underlying52 rfl hiz
      have HF:Hid (∃g:Mg,Ending.returned (.tuple #[.agg zc.toArray,.int .i64 140])=.returned (.tuple #[.agg g.ms.cells.toArray,.int .i64 G.2])∧g.pure=G.1∧g.ok∧g.At (w3.setCells A 0 zc)∧Below w.heap.size w (w3.setCells A 0 zc)):=hide ⟨Mg.none,by rw[hR,hzc.out],by rw[hR];rfl,Mg.none_ok,Mg.none_at _,zi hAw _ _ _ B3⟩
      clear tT B3 hR c1 rX rY
      go_wp2_with fail
      refine bodyPost_ret (zaT rfl _ _ _ rfl hrs) rfl ?_
      exact HF.out
     ·have hfb:(ye !=0)=true:=by simpa using hye
      clear HY HN H3 H4 hc
      refine pl_b ?_
      refine pl_a 35 ?_
      refine pl_v 36 (.bool true) (by go_simp<;>(try simp[*])) ?_
      refine pl_a 37 ?_
      refine pl_k 38 ?_
      refine pl_k 39 ?_
      refine pl_k 40 ?_
      refine pl_a 41 ?_
      refine zb ?_
      clear hfb hye
      go_upto_region 7 with fail
      refine pl_b ?_
      refine pl_v 42 (.agg zc.toArray) (zT (parts:=[]) rfl rfl (hb0 _)) ?_
      refine pl_s (w3.setCells A 0 zc) (zo (cs:=zc.toArray) rfl rfl rfl (by simpa [hzl]using tT) (by simpa using hiz) (zp hz1)) ?_
      refine pl_a 7 ?_
      refine zb ?_
      have hrs:=run_loadVar_mid (P:=prog) (w3.setCells A 0 zc) A 0 52 zc _ (World.rangeAt_setCells_same w3 A 0 zc (by rw[hzl];exact tT)) underlying52 rfl hiz
      have HF:Hid (∃g:Mg,Ending.returned (.tuple #[.agg zc.toArray,.int .i64 140])=.returned (.tuple #[.agg g.ms.cells.toArray,.int .i64 G.2])∧g.pure=G.1∧g.ok∧g.At (w3.setCells A 0 zc)∧Below w.heap.size w (w3.setCells A 0 zc)):=hide ⟨Mg.none,by rw[hR,hzc.out],by rw[hR];rfl,Mg.none_ok,Mg.none_at _,zi hAw _ _ _ B3⟩
      clear tT B3 hR c1 rX rY
      go_wp2_with fail
      refine bodyPost_ret (zaT rfl _ _ _ rfl hrs) rfl ?_
      exact HF.out
open Qs (KeysAt signOf checkOf)
section
variable {P : Program} {ops : Array Oper} {Q : Exit → Act → World → Prop}
end
theorem umodc (z:Int):∃p:Int,0≤p∧p<64∧wrap64 ((IntKind.u64.wrap z).tmod 64)=p:=by
 rw[IntKind.wrap_u64]
 have h0':0≤z%18446744073709551616:=Int.emod_nonneg _ (by decide)
 generalize z%18446744073709551616=q at h0'
 rw[Int.tmod_eq_emod_of_nonneg h0']
 have h1:=Int.emod_nonneg q (b:=64) (by omega)
 have h2:=Int.emod_lt_of_pos q (b:=64) (by omega)
 refine⟨q%64,h1,h2,?_⟩
 generalize q%64=r at h1 h2
 simp only[wrap64]
 omega
theorem zcN {ds:List (List Int)} (hl:ds.length=72) {n:Int} (h0:0≤n) (h1:n<64) (sb:ByteArray):(signOf ds n sb).2=0:=by
 unfold signOf
 rw[if_neg (fun k=>by rw[k]at hl;cases hl),if_neg (by omega)]
theorem zjf {ds:List (List Int)} (hl:ds.length=72) {n:Int} (h0:0≤n) (h1:n<64) (sb:ByteArray):sealO (signOf ds n sb) n sb=(⟨n,sb,(signOf ds n sb).1⟩,0):=by
 unfold sealO
 rw[if_pos (zcN hl h0 h1 sb)]
theorem zgl {ds:List (List Int)} (hl:ds.length=72) {x:Ev} (h0:0≤x.n) (h1:x.n<64):openP ds 64 x=if(signOf ds x.n x.s).1=x.t then decS (strL x.s)else(Mp.none,140):=by
 unfold openP openO checkOf
 rw[if_neg (fun k=>by rw[k]at hl;cases hl),zcN hl h0 h1 x.s]
 by_cases h:(signOf ds x.n x.s).1=x.t
 ·rw[if_pos h,if_neg]
  rintro(k|k|k)
  ·omega
  ·omega
  ·rw[h]at k;simp at k
 ·rw[if_neg h,if_pos]
  refine .inr (.inr ?_)
  have:((signOf ds x.n x.s).1==x.t)=false:=by simpa using h
  rw[this];rfl
theorem zgk {ds:List (List Int)} (hl:ds.length=72) {x:Ev} (h0:0≤x.n) (h1:x.n<64):((openP ds 64 x).2==140)= !((signOf ds x.n x.s).1==x.t):=by
 rw[zgl hl h0 h1]
 by_cases h:(signOf ds x.n x.s).1=x.t
 ·rw[if_pos h,h]
  simp[zmC]
 ·rw[if_neg h]
  have:((signOf ds x.n x.s).1==x.t)=false:=by simpa using h
  rw[this];rfl
end Go.Proofs.YtcbpbkefggekmaaGreatDoor
namespace Go.Proofs.YtcbpbkefggekmaaGreatDoor
open Go.RowKit
open Sha Tal
set_option linter.unusedVariables false
set_option linter.unusedSimpArgs false
open Qs (KeysAt signOf checkOf)
theorem zmf (m:Mg) (a b:Int) (sb:ByteArray) (w:World) (om:m.ok) (am:m.At w) (hG:Glob w):Calls prog 6 #[.agg m.ms.cells.toArray,.int .i64 a,.int .i64 b,.string sb] w fun e w'=>e=.returned (.bool true)∧Below w.heap.size w w':=by
 have HG:=hide hG
 obtain⟨ez,hez,hel⟩:∃z:List Value,(∀w:World,(zeroValue 25).run prog w=.ok (.agg z.toArray) w)∧z.length=18:=⟨evZ.cells,zds,rfl⟩
 obtain⟨tz,htz,htl⟩:∃z:List Value,(∀w:World,(zeroValue 23).run prog w=.ok (.agg z.toArray) w)∧z.length=16:=⟨z16,zeL,rfl⟩
 obtain⟨mz,hmz,hml⟩:∃z:List Value,(∀w:World,(zeroValue 52).run prog w=.ok (.agg z.toArray) w)∧z.length=119:=⟨Mg.none.ms.cells,zeroM,Mg.none_ok.ms.len⟩
 obtain⟨zk,hzkl,hzkr⟩:∃z:List Value,z.length=2∧(∀w:World,(zeroValue 29).run prog w=.ok (.agg z.toArray) w):=⟨[.string ⟨#[]⟩,.int .i64 0],rfl,fun w=>by kernel_rfl⟩
 have cK:=fun w0 g=>Rk.zgM w0 g
 have hkl:=Qs.zbZ Rk.seedR 72
 have cT0:=fun(id:Int) (body:ByteArray) (w0:World) (h:body.size≤100000)=>Qs.zjV Rk.seedR 72 id body w0 (by decide) (by decide) h
 have hsame:∀(id:Int) (body:ByteArray),Qs.zaU Rk.seedR 72 id body=signOf (Qs.keysOf Rk.seedR 72) id body:=fun id body=>(Qs.zi3 Rk.seedR 72 (by decide) id body).symm
 simp only[hsame]at cT0
 have cT0:∀(id:Int) (body:ByteArray) (w0:World),body.size≤100000→Calls prog 23 #[.agg Rk.rkL.toArray,.int .i64 id,.string body] w0 fun e w'=>e=.returned (.tuple #[.agg (v8 (signOf (Qs.keysOf Rk.seedR 72) id body).1).toArray,.int .i64 (signOf (Qs.keysOf Rk.seedR 72) id body).2])∧Below w0.heap.size w0 w':=cT0
 clear hsame
 obtain⟨ks,hks⟩:∃k,Hid (Qs.keysOf Rk.seedR 72=k):=⟨_,hide rfl⟩
 simp only[hks.out]at cK hkl cT0
 have ik:(prog.info? 29).map (·.size)=some Rk.rkL.length:=by kernel_rfl
 have hkl2:Rk.rkL.length=2:=rfl
 have hk1:∀v∈Rk.rkL,v.oneCell'=true:=by decide
 obtain⟨kq,hkq⟩:∃k,Hid (Rk.rkL=k):=⟨_,hide rfl⟩
 simp only[hkq.out]at cK ik hkl2 hk1 cT0
 have cLm:=fun w0 (h0:Below w.heap.size w w0)=>zk6 m w0 om (am.below h0)
 have cEm:=fun(hl:m.light) w0 (h0:Below w.heap.size w w0)=>zmi m w0 om (am.below h0) (fun hg=>zg6 om am hg hl)
 have cSm:=fun(x:Mg) w0 (h0:Below w.heap.size w w0) (ox:x.ok) (ax:x.At w0)=>zh2 x m w0 ox om ax (am.below h0)
 have hdm:m.good=true→decS m.bytes=(m.pure,0)∧Bs m.bytes:=fun hg=>by
  have hp:=zlw om am hg
  have hk:1≤m.k∧m.k≤8:=by
   rcases hp with h|h|h|h|h|h|h|h<;>(have h1:m.k=_:=h.1;omega)
  rw[zmR m hk]
  exact⟨zmA hp,Mp.bytes_bs hp⟩
 have hfm:m.good=true→m.light→m.bytes.length≤40000:=fun hg hl=>(zg6 om am hg hl).all
 have hql:=om.ms.len
 have hqi:(prog.info? 52).map (·.size)=some m.ms.cells.length:=by rw[hql];exact iszM
 obtain⟨q,hq⟩:∃q,Hid (m.ms.cells=q):=⟨_,hide rfl⟩
 simp only[hq.out]at hql hqi cLm cEm cSm ⊢
 obtain⟨zs,hzs⟩:∃z,sb.size=z:=⟨_,rfl⟩
 obtain⟨hBk,rM,sM⟩:=zA w q 52
 obtain⟨w0,hw0⟩:∃W,Hid (w.alloc (.cells q.toArray 52)=W):=⟨_,hide rfl⟩
 rw[hw0.out]at hBk rM sM
 have B:=hBk
 have cL:=cLm w0 B
 clear hG hBk hks hkq cLm
 go_enter func6,ntmps6
 go_upto_region 0 with fail
 refine pl_b ?_
 refine pl_r 4 (.pointer (some ⟨w.heap.size,0,none⟩)) (w.alloc (.cells q.toArray 52)) (zhg rfl rfl) ?_
 rw[hw0.out]
 refine pl_a 8 ?_
 refine zb ?_
 clear hw0
 go_upto_region 1 with fail
 refine pl_b ?_
 refine pl_v 28 (.agg q.toArray) (zm rfl rfl rM underlying52 rfl hqi) ?_
 refine pl_c 29 ?_
 refine(cL).mono ?_
 rintro _ w2 hLS
 obtain⟨lb,rfl,hb,hlt⟩:=hLS
 refine⟨_,rfl,?_⟩
 simp only[nz]
 have rM:=za rM hb sM
 have sM:=Nat.lt_of_lt_of_le sM hb.size
 have B:=B.trans (hb.mono B.size)
 clear cL hb
 cases lb
 ·refine pl_a 30 ?_
  refine pl_a 31 ?_
  refine pl_k 32 ?_
  refine pl_k 33 ?_
  refine pl_k 34 ?_
  refine pl_a 35 ?_
  refine zb ?_
  clear hlt cK cT0 cEm cSm hdm hfm rM
  go_upto_region 2 with fail
  refine pl_b ?_
  refine pl_c 36 ?_
  refine(zdc w2 (HG.out.below B)).mono ?_
  rintro _ wL ⟨rfl,hbL⟩
  refine⟨_,rfl,?_⟩
  simp only[nz]
  refine pl_a 8 ?_
  refine zb ?_
  have HB:=hide (B.trans (hbL.mono B.size))
  clear B hbL
  go_wp2_with fail
  go_ret
  exact⟨rfl,HB.out⟩
 ·refine pl_a 30 ?_
  refine pl_a 31 ?_
  refine pl_a 32 ?_
  refine pl_v 33 (.int .i64 (zs:Int)) (by go_simp<;>(try simp[hzs])) ?_
  by_cases hs:zs≤20000
  rotate_left
  ·have h2:(20000:Int)<zs:=by omega
   refine pl_v 34 (.bool true) (by go_simp<;>(try simp[*])) ?_
   refine pl_a 35 ?_
   refine zb ?_
   clear hlt cK cT0 cEm cSm hdm hfm rM h2 hs hzs
   go_upto_region 2 with fail
   refine pl_b ?_
   refine pl_c 36 ?_
   refine(zdc w2 (HG.out.below B)).mono ?_
   rintro _ wL ⟨rfl,hbL⟩
   refine⟨_,rfl,?_⟩
   simp only[nz]
   refine pl_a 8 ?_
   refine zb ?_
   have HB:=hide (B.trans (hbL.mono B.size))
   clear B hbL
   go_wp2_with fail
   go_ret
   exact⟨rfl,HB.out⟩
  ·have h2:¬(20000:Int)<zs:=by omega
   refine pl_v 34 (.bool false) (by go_simp<;>(try simp[*])) ?_
   refine pl_a 35 ?_
   refine zb ?_
   have hlt:=hlt rfl
   have cE:=fun w0 h0=>cEm hlt w0 h0
   have hsb:sb.size≤40000:=by omega
   have hsb1:sb.size≤100000:=by omega
   clear h2 hs hzs cEm
   go_upto_region 3 with fail
   refine pl_b ?_
   refine pl_c 38 ?_
   refine(cK w2 (HG.out.below B)).mono ?_
   rintro _ w1 ⟨p,rfl,hp,hk,hb1⟩
   refine⟨_,rfl,?_⟩
   simp only[nz]
   refine pl_a 37 ?_
   refine pl_a 39 ?_
   refine pl_a 40 ?_
   refine pl_r 10 (.pointer (some ⟨w1.heap.size,0,none⟩)) (w1.alloc (.cells zk.toArray 29)) (zr rfl (hzkr _)) ?_
   refine pl_a 9 ?_
   refine pl_s ((w1.alloc (.cells zk.toArray 29)).setCells w1.heap.size 0 kq) (zo (cs:=kq.toArray) rfl rfl rfl (zn _ _ _ (by simp[hzkl,hkl2])) (by simpa using ik) (zp hk1)) ?_
   refine zb ?_
   have rM:=za rM hb1 sM
   have sM:=Nat.lt_of_lt_of_le sM hb1.size
   have B:=B.trans (hb1.mono B.size)
   obtain⟨rK,hF,hF3,-⟩:=zq w1 zk.toArray 29 kq (by simp[hzkl,hkl2])
   have rM:=za rM hF sM
   have sM:=Nat.lt_of_lt_of_le sM hF.size
   have B:=B.trans (hF.mono B.size)
   have hk:=hk.below hF
   obtain⟨D1,hD1⟩:∃D,w1.heap.size=D:=⟨_,rfl⟩
   have sK:w1.heap.size<((w1.alloc (.cells zk.toArray 29)).setCells w1.heap.size 0 kq).heap.size:=by omega
   rw[hD1]at rK sK rM sM B hk
   simp only[hD1]
   obtain⟨v1,hv1⟩:∃W,(w1.alloc (.cells zk.toArray 29)).setCells D1 0 kq=W:=⟨_,rfl⟩
   rw[hv1]at rK sK rM sM B hk
   rw[hv1]
   clear hv1 hD1 hF hF3
   clear hb1 cK hp hzkr
   have cE:=cE v1 B
   go_upto_region 4 with fail
   cases hgd:m.good
   ·rw[hgd]at cE
    unfold encV at cE
    rw[if_neg (by decide)]at cE
    refine pl_b ?_
    refine pl_v 42 (.agg q.toArray) (zm rfl rfl rM underlying52 rfl hqi) ?_
    refine pl_c 43 ?_
    refine(cE).mono ?_
    rintro _ w3 ⟨rfl,hb⟩
    refine⟨_,rfl,?_⟩
    simp only[nz]
    refine pl_a 41 ?_
    refine pl_a 44 ?_
    refine pl_a 45 ?_
    refine pl_a 11 ?_
    refine pl_a 12 ?_
    refine zb ?_
    have B:=B.trans (hb.mono B.size)
    clear cE hb cT0 cSm hdm hfm rM rK hk
    go_upto_region 6 with fail
    refine pl_b ?_
    refine pl_c 48 ?_
    refine(zdc w3 (HG.out.below B)).mono ?_
    rintro _ wL ⟨rfl,hbL⟩
    refine⟨_,rfl,?_⟩
    simp only[nz]
    refine pl_a 8 ?_
    refine zb ?_
    have HB:=hide (B.trans (hbL.mono B.size))
    clear B hbL
    go_wp2_with fail
    go_ret
    exact⟨rfl,HB.out⟩
   ·have hdm:=hdm hgd
    have hfm:=hfm hgd hlt
    have hsz:(strOf m.bytes).size≤40000:=by rw[zbO];exact hfm
    have hd1:decS (strL (strOf m.bytes))=(m.pure,0):=by rw[zdM hdm.2];exact hdm.1
    rw[hgd]at cE
    unfold encV at cE
    rw[if_pos rfl]at cE
    obtain⟨sv,hsv⟩:∃s,Hid (strOf m.bytes=s):=⟨_,hide rfl⟩
    rw[hsv.out]at cE hsz hd1
    clear hdm hfm hsv
    refine pl_b ?_
    refine pl_v 42 (.agg q.toArray) (zm rfl rfl rM underlying52 rfl hqi) ?_
    refine pl_c 43 ?_
    refine(cE).mono ?_
    rintro _ w3 ⟨rfl,hb⟩
    refine⟨_,rfl,?_⟩
    simp only[nz]
    refine pl_a 41 ?_
    refine pl_a 44 ?_
    refine pl_a 45 ?_
    refine pl_a 11 ?_
    refine pl_a 12 ?_
    refine zb ?_
    have rM:=za rM hb sM
    have rK:=za rK hb sK
    have sM:=Nat.lt_of_lt_of_le sM hb.size
    have sK:=Nat.lt_of_lt_of_le sK hb.size
    have B:=B.trans (hb.mono B.size)
    have hk:=hk.below hb
    clear cE hb
    obtain⟨n,hn0,hn1,en⟩:=umodc a
    obtain⟨o,ho0,ho1,eo⟩:=umodc b
    have en:IntKind.i64.wrap ((IntKind.u64.wrap a).tmod 64)=n:=(Go.IntWalk.i64_left _).trans en
    have eo:IntKind.i64.wrap ((IntKind.u64.wrap b).tmod 64)=o:=(Go.IntWalk.i64_left _).trans eo
    go_upto_region 7 with fail
    refine pl_b ?_
    refine pl_a 49 ?_
    refine pl_a 50 ?_
    refine pl_a 51 ?_
    refine pl_v 52 (.int .i64 n) (by go_simp<;>(try simp[en])) ?_
    refine pl_a 53 ?_
    refine pl_a 54 ?_
    refine pl_a 55 ?_
    refine pl_v 56 (.int .i64 o) (by go_simp<;>(try simp[eo])) ?_
    refine pl_a 13 ?_
    refine pl_a 14 ?_
    refine zb ?_
    clear en eo
    have cS:=fun w0 g k=>zhi p ks n sv w0 g k hsz
    simp only[zjf hkl hn0 hn1]at cS
    have xok:(⟨n,sv,(signOf ks n sv).1⟩:Ev).ok:=⟨Qs.zaN _ _ _,Qs.zca _ _ _,Nat.le_trans hsz (by decide),by show -9223372036854775808≤n;omega,by show n≤9223372036854775807;omega⟩
    have aok:(⟨o,sv,(signOf ks n sv).1⟩:Ev).ok:=⟨Qs.zaN _ _ _,Qs.zca _ _ _,Nat.le_trans hsz (by decide),by show -9223372036854775808≤o;omega,by show o≤9223372036854775807;omega⟩
    have bok:(⟨n,sb,(signOf ks n sv).1⟩:Ev).ok:=⟨Qs.zaN _ _ _,Qs.zca _ _ _,Nat.le_trans hsb (by decide),by show -9223372036854775808≤n;omega,by show n≤9223372036854775807;omega⟩
    have cO1:=fun w0 g k=>zes p ks 64 ⟨n,sv,(signOf ks n sv).1⟩ w0 g k xok hsz
    have e1:openP ks 64 ⟨n,sv,(signOf ks n sv).1⟩=(m.pure,0):=by
     rw[zgl hkl (x:=⟨n,sv,(signOf ks n sv).1⟩) hn0 hn1,if_pos rfl];exact hd1
    rw[e1]at cO1
    have cO2:=fun w0 g k=>zes p ks 64 ⟨o,sv,(signOf ks n sv).1⟩ w0 g k aok hsz
    have g2:=zgk hkl (x:=⟨o,sv,(signOf ks n sv).1⟩) ho0 ho1
    have cO3:=fun w0 g k=>zes p ks 64 ⟨n,sb,(signOf ks n sv).1⟩ w0 g k bok hsb
    have g3:=zgk hkl (x:=⟨n,sb,(signOf ks n sv).1⟩) hn0 hn1
    have cT1:=fun w0=>cT0 o sv w0 (Nat.le_trans hsz (by decide))
    have cT2:=fun w0=>cT0 n sb w0 hsb1
    rw[zcN hkl ho0 ho1]at cT1
    rw[zcN hkl hn0 hn1]at cT2
    have htl1:=Qs.zaN ks o sv
    have htl2:=Qs.zaN ks n sb
    have htl0:=Qs.zaN ks n sv
    obtain⟨Tn,hTn⟩:∃t,Hid ((signOf ks n sv).1=t):=⟨_,hide rfl⟩
    obtain⟨t1,ht1⟩:∃t,Hid ((signOf ks o sv).1=t):=⟨_,hide rfl⟩
    obtain⟨t2,ht2⟩:∃t,Hid ((signOf ks n sb).1=t):=⟨_,hide rfl⟩
    simp only[hTn.out,ht1.out,ht2.out]at cS cO1 cO2 cO3 cT1 cT2 g2 g3 htl0 htl1 htl2
    have hn2:=fun w0=>Qs.zgE t1 Tn htl1 htl0 w0
    have hn3:=fun w0=>Qs.zgE t2 Tn htl2 htl0 w0
    obtain⟨⟨m2,ga⟩,hR2⟩:∃r,Hid (openP ks 64 ⟨o,sv,Tn⟩=r):=⟨_,hide rfl⟩
    obtain⟨⟨m3,gb⟩,hR3⟩:∃r,Hid (openP ks 64 ⟨n,sb,Tn⟩=r):=⟨_,hide rfl⟩
    rw[hR2.out]at cO2 g2
    rw[hR3.out]at cO3 g3
    simp only at g2 g3
    obtain⟨c2,hc2⟩:∃c,Hid ((!(t1==Tn))=c):=⟨_,hide rfl⟩
    obtain⟨c3,hc3⟩:∃c,Hid ((!(t2==Tn))=c):=⟨_,hide rfl⟩
    rw[hc2.out]at g2
    rw[hc3.out]at g3
    simp only[hc2.out]at hn2
    simp only[hc3.out]at hn3
    have G2:=hide g2
    have G3:=hide g3
    have hcx:∀(i:Int) (x:ByteArray),(⟨i,x,Tn⟩:Ev).cells=.int .i64 i::.string x::v8 Tn:=fun _ _=>rfl
    unfold OpenA at cO1 cO2 cO3
    simp only[hcx]at cS cO1 cO2 cO3
    have l0:(v8 Tn).length=16:=by rw[v8_length,htl0]
    have l1:(v8 t1).length=16:=by rw[v8_length,htl1]
    have l2:(v8 t2).length=16:=by rw[v8_length,htl2]
    have o0:=zy Tn
    have o1:=zy t1
    have o2:=zy t2
    obtain⟨q0,hq0⟩:∃q,Hid (v8 Tn=q):=⟨_,hide rfl⟩
    obtain⟨q1,hq1⟩:∃q,Hid (v8 t1=q):=⟨_,hide rfl⟩
    obtain⟨q2,hq2⟩:∃q,Hid (v8 t2=q):=⟨_,hide rfl⟩
    simp only[hq0.out,hq1.out,hq2.out]at cS cO1 cO2 cO3 cT1 cT2 hn2 hn3 l0 l1 l2 o0 o1 o2
    have i0:(prog.info? 23).map (·.size)=some q0.length:=by rw[l0];exact iszT
    have i1:(prog.info? 23).map (·.size)=some q1.length:=by rw[l1];exact iszT
    have i2:(prog.info? 23).map (·.size)=some q2.length:=by rw[l2];exact iszT
    obtain⟨xq,hxq⟩:∃q,Hid ((.int .i64 n::.string sv::q0:List Value)=q):=⟨_,hide rfl⟩
    obtain⟨aq,haq⟩:∃q,Hid ((.int .i64 o::.string sv::q0:List Value)=q):=⟨_,hide rfl⟩
    obtain⟨bq,hbq⟩:∃q,Hid ((.int .i64 n::.string sb::q0:List Value)=q):=⟨_,hide rfl⟩
    have lx:xq.length=18:=by rw[←hxq.out];simp[l0]
    have la:aq.length=18:=by rw[←haq.out];simp[l0]
    have lb:bq.length=18:=by rw[←hbq.out];simp[l0]
    have ox:∀v∈xq,v.oneCell'=true:=by
     rw[←hxq.out];intro v hv;simp at hv;rcases hv with rfl|rfl|hv
     ·rfl
     ·rfl
     ·exact o0 v hv
    have ix:(prog.info? 25).map (·.size)=some xq.length:=by rw[lx];exact zbD
    have ia:(prog.info? 25).map (·.size)=some aq.length:=by rw[la];exact zbD
    have ib:(prog.info? 25).map (·.size)=some bq.length:=by rw[lb];exact zbD
    simp only[hxq.out]at cS cO1
    simp only[haq.out]at cO2
    simp only[hbq.out]at cO3
    clear xok aok bok e1 g2 g3 cT0 hgd hlt hd1 hn0 hn1 ho0 ho1 hcx hkl hTn ht1 ht2 hR2 hR3 hc2 hc3 hq0 hq1 hq2 htl0 htl1 htl2 hsz hsb hsb1
    go_upto_region 8 with fail
    refine pl_b ?_
    refine pl_a 58 ?_
    refine pl_a 59 ?_
    refine pl_a 60 ?_
    refine pl_c 61 ?_
    refine(cS w3 (HG.out.below B) hk).mono ?_
    rintro _ wc ⟨rfl,hb⟩
    refine⟨_,rfl,?_⟩
    simp only[nz]
    refine pl_a 57 ?_
    refine pl_a 62 ?_
    refine pl_a 63 ?_
    refine pl_r 15 (.pointer (some ⟨wc.heap.size,0,none⟩)) (wc.alloc (.cells ez.toArray 25)) (zr rfl (hez _)) ?_
    refine pl_s ((wc.alloc (.cells ez.toArray 25)).setCells wc.heap.size 0 xq) (zo (cs:=xq.toArray) rfl rfl rfl (zn _ _ _ (by simp[hel,lx])) (by simpa using ix) (zp ox)) ?_
    refine pl_a 12 ?_
    refine zb ?_
    have rM:=za rM hb sM
    have rK:=za rK hb sK
    have sM:=Nat.lt_of_lt_of_le sM hb.size
    have sK:=Nat.lt_of_lt_of_le sK hb.size
    have B:=B.trans (hb.mono B.size)
    have hk:=hk.below hb
    obtain⟨rX,hF,hF3,-⟩:=zq wc ez.toArray 25 xq (by simp[hel,lx])
    have rM:=za rM hF sM
    have rK:=za rK hF sK
    have sM:=Nat.lt_of_lt_of_le sM hF.size
    have sK:=Nat.lt_of_lt_of_le sK hF.size
    have B:=B.trans (hF.mono B.size)
    have hk:=hk.below hF
    obtain⟨D2,hD2⟩:∃D,wc.heap.size=D:=⟨_,rfl⟩
    have sX:wc.heap.size<((wc.alloc (.cells ez.toArray 25)).setCells wc.heap.size 0 xq).heap.size:=by omega
    rw[hD2]at rX sX rM sM rK sK B hk
    simp only[hD2]
    obtain⟨v2,hv2⟩:∃W,(wc.alloc (.cells ez.toArray 25)).setCells D2 0 xq=W:=⟨_,rfl⟩
    rw[hv2]at rX sX rM sM rK sK B hk
    rw[hv2]
    clear hv2 hD2 hF hF3
    clear hb
    clear cS
    go_upto_region 9 with fail
    refine pl_b ?_
    refine pl_a 65 ?_
    refine pl_v 66 (.agg xq.toArray) (zm rfl rfl rX underlying25 rfl ix) ?_
    refine pl_c 67 ?_
    refine(cO1 v2 (HG.out.below B) hk).mono ?_
    rintro _ wc ⟨y,rfl,yp,yo,ya,hb⟩
    have hl1:=yo.ms.len
    have ho1:=yo.ms.one
    have iq1:(prog.info? 52).map (·.size)=some y.ms.cells.length:=by rw[hl1];exact iszM
    obtain⟨yq,hyq⟩:∃q,Hid (y.ms.cells=q):=⟨_,hide rfl⟩
    simp only[hyq.out]at hl1 ho1 iq1 ⊢
    refine⟨_,rfl,?_⟩
    simp only[nz]
    refine pl_a 64 ?_
    refine pl_a 68 ?_
    refine pl_a 69 ?_
    refine pl_r 16 (.pointer (some ⟨wc.heap.size,0,none⟩)) (wc.alloc (.cells mz.toArray 52)) (zr rfl (hmz _)) ?_
    refine pl_s ((wc.alloc (.cells mz.toArray 52)).setCells wc.heap.size 0 yq) (zo (cs:=yq.toArray) rfl rfl rfl (zn _ _ _ (by simp[hml,hl1])) (by simpa using iq1) (zp ho1)) ?_
    refine pl_a 17 ?_
    refine zb ?_
    have rM:=za rM hb sM
    have rK:=za rK hb sK
    have rX:=za rX hb sX
    have sM:=Nat.lt_of_lt_of_le sM hb.size
    have sK:=Nat.lt_of_lt_of_le sK hb.size
    have sX:=Nat.lt_of_lt_of_le sX hb.size
    have B:=B.trans (hb.mono B.size)
    have hk:=hk.below hb
    obtain⟨rY,hF,hF3,-⟩:=zq wc mz.toArray 52 yq (by simp[hml,hl1])
    have rM:=za rM hF sM
    have rK:=za rK hF sK
    have rX:=za rX hF sX
    have sM:=Nat.lt_of_lt_of_le sM hF.size
    have sK:=Nat.lt_of_lt_of_le sK hF.size
    have sX:=Nat.lt_of_lt_of_le sX hF.size
    have ya:=ya.below hF
    have B:=B.trans (hF.mono B.size)
    have hk:=hk.below hF
    obtain⟨D3,hD3⟩:∃D,wc.heap.size=D:=⟨_,rfl⟩
    have sY:wc.heap.size<((wc.alloc (.cells mz.toArray 52)).setCells wc.heap.size 0 yq).heap.size:=by omega
    rw[hD3]at rY sY rM sM rK sK rX sX ya B hk
    simp only[hD3]
    obtain⟨v3,hv3⟩:∃W,(wc.alloc (.cells mz.toArray 52)).setCells D3 0 yq=W:=⟨_,rfl⟩
    rw[hv3]at rY sY rM sM rK sK rX sX ya B hk
    rw[hv3]
    clear hv3 hD3 hF hF3
    clear hb
    clear cO1
    have cSm:=cSm y v3 B yo ya
    rw[Mg.B_eqv y m yp,hyq.out]at cSm
    clear yp yo ya
    go_upto_region 10 with fail
    refine pl_b ?_
    refine pl_a 70 ?_
    refine pl_v 71 (.bool false) (by go_simp<;>(try simp[*])) ?_
    refine pl_a 72 ?_
    refine pl_a 73 ?_
    refine pl_v 74 (.bool false) (by go_simp<;>(try simp[*])) ?_
    refine pl_a 75 ?_
    refine pl_a 76 ?_
    refine pl_v 77 (.agg yq.toArray) (zm rfl rfl rY underlying52 rfl iq1) ?_
    refine pl_v 78 (.agg q.toArray) (zm rfl rfl rM underlying52 rfl hqi) ?_
    refine pl_c 79 ?_
    refine(cSm).mono ?_
    rintro _ wd ⟨rfl,hb⟩
    refine⟨_,rfl,?_⟩
    simp only[nz]
    refine pl_a 80 ?_
    refine pl_a 81 ?_
    refine zb ?_
    clear rY sY rM sM
    have rK:=za rK hb sK
    have rX:=za rX hb sX
    have sK:=Nat.lt_of_lt_of_le sK hb.size
    have sX:=Nat.lt_of_lt_of_le sX hb.size
    have B:=B.trans (hb.mono B.size)
    have hk:=hk.below hb
    clear hb cSm hyq
    go_upto_region 12 with fail
    refine pl_b ?_
    refine pl_v 83 (.agg kq.toArray) (zm rfl rfl rK underlying29 rfl ik) ?_
    refine pl_a 84 ?_
    refine pl_a 85 ?_
    refine pl_c 86 ?_
    refine(cT1 wd).mono ?_
    rintro _ wc ⟨rfl,hb⟩
    refine⟨_,rfl,?_⟩
    simp only[nz]
    refine pl_a 82 ?_
    refine pl_a 87 ?_
    refine pl_a 88 ?_
    refine pl_r 18 (.pointer (some ⟨wc.heap.size,0,none⟩)) (wc.alloc (.cells tz.toArray 23)) (zr rfl (htz _)) ?_
    refine pl_s ((wc.alloc (.cells tz.toArray 23)).setCells wc.heap.size 0 q1) (zo (cs:=q1.toArray) rfl rfl rfl (zn _ _ _ (by simp[htl,l1])) (by simpa using i1) (zp o1)) ?_
    refine pl_a 19 ?_
    refine zb ?_
    have rK:=za rK hb sK
    have rX:=za rX hb sX
    have sK:=Nat.lt_of_lt_of_le sK hb.size
    have sX:=Nat.lt_of_lt_of_le sX hb.size
    have B:=B.trans (hb.mono B.size)
    have hk:=hk.below hb
    obtain⟨rS,hF,hF3,-⟩:=zq wc tz.toArray 23 q1 (by simp[htl,l1])
    have rK:=za rK hF sK
    have rX:=za rX hF sX
    have sK:=Nat.lt_of_lt_of_le sK hF.size
    have sX:=Nat.lt_of_lt_of_le sX hF.size
    have B:=B.trans (hF.mono B.size)
    have hk:=hk.below hF
    obtain⟨D4,hD4⟩:∃D,wc.heap.size=D:=⟨_,rfl⟩
    have sS:wc.heap.size<((wc.alloc (.cells tz.toArray 23)).setCells wc.heap.size 0 q1).heap.size:=by omega
    rw[hD4]at rS sS rK sK rX sX B hk
    simp only[hD4]
    obtain⟨v4,hv4⟩:∃W,(wc.alloc (.cells tz.toArray 23)).setCells D4 0 q1=W:=⟨_,rfl⟩
    rw[hv4]at rS sS rK sK rX sX B hk
    rw[hv4]
    clear hv4 hD4 hF hF3
    clear hb
    clear cT1
    go_upto_region 13 with fail
    refine pl_b ?_
    refine pl_v 90 (.agg kq.toArray) (zm rfl rfl rK underlying29 rfl ik) ?_
    refine pl_a 91 ?_
    refine pl_a 92 ?_
    refine pl_c 93 ?_
    refine(cT2 v4).mono ?_
    rintro _ wc ⟨rfl,hb⟩
    refine⟨_,rfl,?_⟩
    simp only[nz]
    refine pl_a 89 ?_
    refine pl_a 94 ?_
    refine pl_a 95 ?_
    refine pl_r 20 (.pointer (some ⟨wc.heap.size,0,none⟩)) (wc.alloc (.cells tz.toArray 23)) (zr rfl (htz _)) ?_
    refine pl_s ((wc.alloc (.cells tz.toArray 23)).setCells wc.heap.size 0 q2) (zo (cs:=q2.toArray) rfl rfl rfl (zn _ _ _ (by simp[htl,l2])) (by simpa using i2) (zp o2)) ?_
    refine pl_a 21 ?_
    refine zb ?_
    have rK:=za rK hb sK
    have rX:=za rX hb sX
    have rS:=za rS hb sS
    have sK:=Nat.lt_of_lt_of_le sK hb.size
    have sX:=Nat.lt_of_lt_of_le sX hb.size
    have sS:=Nat.lt_of_lt_of_le sS hb.size
    have B:=B.trans (hb.mono B.size)
    have hk:=hk.below hb
    obtain⟨rT,hF,hF3,-⟩:=zq wc tz.toArray 23 q2 (by simp[htl,l2])
    have rK:=za rK hF sK
    have rX:=za rX hF sX
    have rS:=za rS hF sS
    have sK:=Nat.lt_of_lt_of_le sK hF.size
    have sX:=Nat.lt_of_lt_of_le sX hF.size
    have sS:=Nat.lt_of_lt_of_le sS hF.size
    have B:=B.trans (hF.mono B.size)
    have hk:=hk.below hF
    obtain⟨D5,hD5⟩:∃D,wc.heap.size=D:=⟨_,rfl⟩
    have sT:wc.heap.size<((wc.alloc (.cells tz.toArray 23)).setCells wc.heap.size 0 q2).heap.size:=by omega
    rw[hD5]at rT sT rK sK rX sX rS sS B hk
    simp only[hD5]
    obtain⟨v5,hv5⟩:∃W,(wc.alloc (.cells tz.toArray 23)).setCells D5 0 q2=W:=⟨_,rfl⟩
    rw[hv5]at rT sT rK sK rX sX rS sS B hk
    rw[hv5]
    clear hv5 hD5 hF hF3
    clear hb
    clear cT2 rK sK
    go_upto_region 14 with fail
    go_cut [22,23] (fun d e wx=>∃D E:Nat,d=.pointer (some ⟨D,0,none⟩)∧e=.pointer (some ⟨E,0,none⟩)∧Hid (Below v5.heap.size v5 wx∧wx.rangeAt D 0 xq∧wx.rangeAt E 0 xq∧wx.there D 0 18∧wx.there E 0 18∧D≠E∧v5.heap.size≤D∧v5.heap.size≤E∧D<wx.heap.size∧E<wx.heap.size))
    case first=>
     clear cO2 cO3 hn2 hn3 rS rT hk B
     have hdr:Below v5.heap.size v5 v5.drew:=(Below.refl _ _).drew
     have rX8:=za rX hdr sX
     have sX8:=Nat.lt_of_lt_of_le sX hdr.size
     refine zw (S:=(Below v5.drew.heap.size v5.drew)) 6 rfl (by kernel_rfl) ?_
     obtain⟨w8,hw8⟩:∃W,v5.drew=W:=⟨_,rfl⟩
     rw[hw8]at rX8 sX8 hdr ⊢
     clear hw8
     have hS:(Below w8.heap.size w8) w8:=Below.refl _ _
     refine hs_v 0 96 (.agg xq.toArray) rfl (fun w' hw=>zm rfl rfl (za rX8 hw sX8) underlying25 rfl ix) hS ?_
     refine hs_v 1 97 (.agg xq.toArray) rfl (fun w' hw=>zm rfl rfl (za rX8 hw sX8) underlying25 rfl ix) hS ?_
     refine zlh (l:=[2,3]) (by kernel_rfl) (by simp) ?_
     intro ii hii
     simp only[List.mem_cons,List.not_mem_nil,or_false]at hii
     rcases hii with rfl|rfl
     ·obtain⟨P,HP⟩:∃x,Hid (w8.heap.size=x):=⟨_,hide rfl⟩
      have gP:w8.heap.size≤P:=by have:=hS.size;have:=HP.out;omega
      have hb:Below w8.heap.size w8 (w8.alloc (.cells ez.toArray 25)):=(Below.refl _ _).alloc (Nat.le_refl _) _
      have tP:(w8.alloc (.cells ez.toArray 25)).there P 0 18:=by rw[←HP.out];exact zn w8 ez.toArray 25 (n:=18) (by simp[hel])
      have lP:P<(w8.alloc (.cells ez.toArray 25)).heap.size:=by rw[←HP.out];exact(zA w8 ez 25).2.2
      have hS2:(Below w8.heap.size w8) (w8.alloc (.cells ez.toArray 25)):=hS.trans (hb.mono hS.size)
      refine zfo (i:=2) (d:=some 22) (v:=.pointer (some ⟨P,0,none⟩)) (w':=w8.alloc (.cells ez.toArray 25)) rfl (by rfl) (by rw[←HP.out];exact zr rfl (hez _)) rfl hS2 ?_
      simp only[nz]
      obtain⟨c1,h_c1⟩:∃W,w8.alloc (.cells ez.toArray 25)=W:=⟨_,rfl⟩
      rw[h_c1]at tP lP hS2 ⊢
      have hS:=hS2
      clear h_c1 hb hS2
      obtain⟨R,HR⟩:∃x,Hid (c1.heap.size=x):=⟨_,hide rfl⟩
      have gR:w8.heap.size≤R:=by have:=hS.size;have:=HR.out;omega
      have hb:Below c1.heap.size c1 (c1.alloc (.cells ez.toArray 25)):=(Below.refl _ _).alloc (Nat.le_refl _) _
      have tR:(c1.alloc (.cells ez.toArray 25)).there R 0 18:=by rw[←HR.out];exact zn c1 ez.toArray 25 (n:=18) (by simp[hel])
      have lR:R<(c1.alloc (.cells ez.toArray 25)).heap.size:=by rw[←HR.out];exact(zA c1 ez 25).2.2
      have hS2:(Below w8.heap.size w8) (c1.alloc (.cells ez.toArray 25)):=hS.trans (hb.mono hS.size)
      have nPR:P≠R:=by have:=HR.out;omega
      have tP:=zg tP hb lP
      have lP:=Nat.lt_of_lt_of_le lP hb.size
      refine zbo (i:=3) (d:=some 23) (v:=.pointer (some ⟨R,0,none⟩)) (w':=c1.alloc (.cells ez.toArray 25)) rfl (by kernel_rfl) (by rfl) (by rw[←HR.out];exact zr rfl (hez _)) rfl hS2 ?_
      simp only[nz]
      obtain⟨c2,h_c2⟩:∃W,c1.alloc (.cells ez.toArray 25)=W:=⟨_,rfl⟩
      rw[h_c2]at tR lR tP lP hS2 ⊢
      have hS:=hS2
      clear h_c2 hb hS2
      have hS2:(Below w8.heap.size w8) (c2.setCells P 0 xq):=zi gP xq 0 _ hS
      have rP:(c2.setCells P 0 xq).rangeAt P 0 xq:=World.rangeAt_setCells_same c2 P 0 xq (by rw[lx];exact tP)
      refine zG (i:=4) (w':=c2.setCells P 0 xq) rfl (by kernel_rfl) (by rfl) (zo (cs:=xq.toArray) rfl rfl rfl (by simpa [lx]using tP) (by simpa using ix) (zp ox)) rfl hS2 ?_
      have tP:=World.there_setCells tP P 0 xq
      have lP:P<(c2.setCells P 0 xq).heap.size:=by rw[zB];exact lP
      have tR:=World.there_setCells tR P 0 xq
      have lR:R<(c2.setCells P 0 xq).heap.size:=by rw[zB];exact lR
      obtain⟨c3,h_c3⟩:∃W,c2.setCells P 0 xq=W:=⟨_,rfl⟩
      rw[h_c3]at tP lP rP tR lR hS2 ⊢
      have hS:=hS2
      clear h_c3 hS2
      have hS2:(Below w8.heap.size w8) (c3.setCells R 0 xq):=zi gR xq 0 _ hS
      have rR:(c3.setCells R 0 xq).rangeAt R 0 xq:=World.rangeAt_setCells_same c3 R 0 xq (by rw[lx];exact tR)
      refine zG (i:=5) (w':=c3.setCells R 0 xq) rfl (by kernel_rfl) (by rfl) (zo (cs:=xq.toArray) rfl rfl rfl (by simpa [lx]using tR) (by simpa using ix) (zp ox)) rfl hS2 ?_
      have tP:=World.there_setCells tP R 0 xq
      have rP:=World.rangeAt_setCells_apart rP R 0 xq (.inl (by have:=nPR;exact this))
      have lP:P<(c3.setCells R 0 xq).heap.size:=by rw[zB];exact lP
      have tR:=World.there_setCells tR R 0 xq
      have lR:R<(c3.setCells R 0 xq).heap.size:=by rw[zB];exact lR
      obtain⟨c4,h_c4⟩:∃W,c3.setCells R 0 xq=W:=⟨_,rfl⟩
      rw[h_c4]at tP lP rP tR lR rR hS2 ⊢
      have hS:=hS2
      clear h_c4 hS2
      refine zv (by kernel_rfl) ?_
      go_wp2_with fail
      go_meet
      exact⟨P,R,rfl,rfl,hide ⟨hdr.trans (hS.mono hdr.size),rP,rR,tP,tR,nPR,Nat.le_trans hdr.size gP,Nat.le_trans hdr.size gR,lP,lR⟩⟩
     ·obtain⟨R,HR⟩:∃x,Hid (w8.heap.size=x):=⟨_,hide rfl⟩
      have gR:w8.heap.size≤R:=by have:=hS.size;have:=HR.out;omega
      have hb:Below w8.heap.size w8 (w8.alloc (.cells ez.toArray 25)):=(Below.refl _ _).alloc (Nat.le_refl _) _
      have tR:(w8.alloc (.cells ez.toArray 25)).there R 0 18:=by rw[←HR.out];exact zn w8 ez.toArray 25 (n:=18) (by simp[hel])
      have lR:R<(w8.alloc (.cells ez.toArray 25)).heap.size:=by rw[←HR.out];exact(zA w8 ez 25).2.2
      have hS2:(Below w8.heap.size w8) (w8.alloc (.cells ez.toArray 25)):=hS.trans (hb.mono hS.size)
      refine zfo (i:=3) (d:=some 23) (v:=.pointer (some ⟨R,0,none⟩)) (w':=w8.alloc (.cells ez.toArray 25)) rfl (by rfl) (by rw[←HR.out];exact zr rfl (hez _)) rfl hS2 ?_
      simp only[nz]
      obtain⟨c1,h_c1⟩:∃W,w8.alloc (.cells ez.toArray 25)=W:=⟨_,rfl⟩
      rw[h_c1]at tR lR hS2 ⊢
      have hS:=hS2
      clear h_c1 hb hS2
      obtain⟨P,HP⟩:∃x,Hid (c1.heap.size=x):=⟨_,hide rfl⟩
      have gP:w8.heap.size≤P:=by have:=hS.size;have:=HP.out;omega
      have hb:Below c1.heap.size c1 (c1.alloc (.cells ez.toArray 25)):=(Below.refl _ _).alloc (Nat.le_refl _) _
      have tP:(c1.alloc (.cells ez.toArray 25)).there P 0 18:=by rw[←HP.out];exact zn c1 ez.toArray 25 (n:=18) (by simp[hel])
      have lP:P<(c1.alloc (.cells ez.toArray 25)).heap.size:=by rw[←HP.out];exact(zA c1 ez 25).2.2
      have hS2:(Below w8.heap.size w8) (c1.alloc (.cells ez.toArray 25)):=hS.trans (hb.mono hS.size)
      have nRP:R≠P:=by have:=HP.out;omega
      have tR:=zg tR hb lR
      have lR:=Nat.lt_of_lt_of_le lR hb.size
      refine zbo (i:=2) (d:=some 22) (v:=.pointer (some ⟨P,0,none⟩)) (w':=c1.alloc (.cells ez.toArray 25)) rfl (by kernel_rfl) (by rfl) (by rw[←HP.out];exact zr rfl (hez _)) rfl hS2 ?_
      simp only[nz]
      obtain⟨c2,h_c2⟩:∃W,c1.alloc (.cells ez.toArray 25)=W:=⟨_,rfl⟩
      rw[h_c2]at tP lP tR lR hS2 ⊢
      have hS:=hS2
      clear h_c2 hb hS2
      have hS2:(Below w8.heap.size w8) (c2.setCells P 0 xq):=zi gP xq 0 _ hS
      have rP:(c2.setCells P 0 xq).rangeAt P 0 xq:=World.rangeAt_setCells_same c2 P 0 xq (by rw[lx];exact tP)
      refine zG (i:=4) (w':=c2.setCells P 0 xq) rfl (by kernel_rfl) (by rfl) (zo (cs:=xq.toArray) rfl rfl rfl (by simpa [lx]using tP) (by simpa using ix) (zp ox)) rfl hS2 ?_
      have tR:=World.there_setCells tR P 0 xq
      have lR:R<(c2.setCells P 0 xq).heap.size:=by rw[zB];exact lR
      have tP:=World.there_setCells tP P 0 xq
      have lP:P<(c2.setCells P 0 xq).heap.size:=by rw[zB];exact lP
      obtain⟨c3,h_c3⟩:∃W,c2.setCells P 0 xq=W:=⟨_,rfl⟩
      rw[h_c3]at tR lR tP lP rP hS2 ⊢
      have hS:=hS2
      clear h_c3 hS2
      have hS2:(Below w8.heap.size w8) (c3.setCells R 0 xq):=zi gR xq 0 _ hS
      have rR:(c3.setCells R 0 xq).rangeAt R 0 xq:=World.rangeAt_setCells_same c3 R 0 xq (by rw[lx];exact tR)
      refine zG (i:=5) (w':=c3.setCells R 0 xq) rfl (by kernel_rfl) (by rfl) (zo (cs:=xq.toArray) rfl rfl rfl (by simpa [lx]using tR) (by simpa using ix) (zp ox)) rfl hS2 ?_
      have tR:=World.there_setCells tR R 0 xq
      have lR:R<(c3.setCells R 0 xq).heap.size:=by rw[zB];exact lR
      have tP:=World.there_setCells tP R 0 xq
      have rP:=World.rangeAt_setCells_apart rP R 0 xq (.inl (Ne.symm nRP))
      have lP:P<(c3.setCells R 0 xq).heap.size:=by rw[zB];exact lP
      obtain⟨c4,h_c4⟩:∃W,c3.setCells R 0 xq=W:=⟨_,rfl⟩
      rw[h_c4]at tR lR rR tP lP rP hS2 ⊢
      have hS:=hS2
      clear h_c4 hS2
      refine zv (by kernel_rfl) ?_
      go_wp2_with fail
      go_meet
      exact⟨P,R,rfl,rfl,hide ⟨hdr.trans (hS.mono hdr.size),rP,rR,tP,tR,(Ne.symm nRP),Nat.le_trans hdr.size gP,Nat.le_trans hdr.size gR,lP,lR⟩⟩
    case rest=>
     obtain⟨D,E,hd,he,HF⟩:=hcut
     subst hd
     subst he
     obtain⟨hb1,rA0,rE0,tA,tE,nAE,gA,gE,lA,lE⟩:=HF.out
     clear HF hez hel
     have rA0:wc.rangeAt D 0 (.int .i64 n::.string sv::q0):=by rw[hxq.out];exact rA0
     have rE0:wc.rangeAt E 0 (.int .i64 n::.string sv::q0):=by rw[hxq.out];exact rE0
     have rA1:(wc.setCells D 0 [.int .i64 o]).rangeAt D 0 aq:=by rw[←haq.out];exact zaa rA0 0 (.int .i64 o)
     have rE1:(wc.setCells D 0 [.int .i64 o]).rangeAt E 0 (.int .i64 n::.string sv::q0):=World.rangeAt_setCells_apart rE0 D 0 _ (.inl (Ne.symm nAE))
     have tE1:(wc.setCells D 0 [.int .i64 o]).there E 0 18:=World.there_setCells tE D 0 _
     have rE:((wc.setCells D 0 [.int .i64 o]).setCells E 1 [.string sb]).rangeAt E 0 bq:=by rw[←hbq.out];exact zaa rE1 1 (.string sb)
     have rA:((wc.setCells D 0 [.int .i64 o]).setCells E 1 [.string sb]).rangeAt D 0 aq:=World.rangeAt_setCells_apart rA1 E 1 _ (.inl nAE)
     have hb:Below v5.heap.size v5 ((wc.setCells D 0 [.int .i64 o]).setCells E 1 [.string sb]):=hb1.trans (zi gE _ 1 _ (zi gA _ 0 _ (Below.refl _ _)))
     have sA:D<((wc.setCells D 0 [.int .i64 o]).setCells E 1 [.string sb]).heap.size:=by rw[zB,zB];exact lA
     have sE:E<((wc.setCells D 0 [.int .i64 o]).setCells E 1 [.string sb]).heap.size:=by rw[zB,zB];exact lE
     have rX:=za rX hb sX
     have rS:=za rS hb sS
     have rT:=za rT hb sT
     have sX:=Nat.lt_of_lt_of_le sX hb.size
     have sS:=Nat.lt_of_lt_of_le sS hb.size
     have sT:=Nat.lt_of_lt_of_le sT hb.size
     have B:=B.trans (hb.mono B.size)
     have hk:=hk.below hb
     go_upto_region 15 with fail
     refine pl_b ?_
     refine pl_a 98 ?_
     refine pl_a 99 ?_
     refine pl_v 100 (.pointer (some ⟨D,0,none⟩)) (by go_simp<;>(try simp[*])) ?_
     refine pl_s (wc.setCells D 0 [.int .i64 o]) (zX (n:=18) rfl rfl rfl tA (by decide) iszI rfl rfl) ?_
     refine pl_v 101 (.pointer (some ⟨E,1,none⟩)) (by go_simp<;>(try simp[*])) ?_
     refine pl_s ((wc.setCells D 0 [.int .i64 o]).setCells E 1 [.string sb]) (zX (n:=18) rfl rfl rfl tE1 (by decide) zld rfl rfl) ?_
     refine zb ?_
     obtain⟨wx,hwx⟩:∃W,(wc.setCells D 0 [.int .i64 o]).setCells E 1 [.string sb]=W:=⟨_,rfl⟩
     rw[hwx]at rX sX rS sS rT sT rA sA rE sE B hk ⊢
     clear hwx hb hb1 rA0 rE0 rA1 rE1 tE1 tA tE nAE gA gE lA lE haq hbq
     go_upto_region 16 with fail
     refine pl_b ?_
     refine pl_a 103 ?_
     refine pl_v 104 (.agg aq.toArray) (zm rfl rfl rA underlying25 rfl ia) ?_
     refine pl_c 105 ?_
     refine(cO2 wx (HG.out.below B) hk).mono ?_
     rintro _ wc ⟨y2,rfl,y2p,y2o,y2a,hb⟩
     have hl2:=y2o.ms.len
     have ho2:=y2o.ms.one
     have iq2:(prog.info? 52).map (·.size)=some y2.ms.cells.length:=by rw[hl2];exact iszM
     obtain⟨yq2,hyq2⟩:∃q,Hid (y2.ms.cells=q):=⟨_,hide rfl⟩
     simp only[hyq2.out]at hl2 ho2 iq2 ⊢
     refine⟨_,rfl,?_⟩
     simp only[nz]
     refine pl_a 102 ?_
     refine pl_a 106 ?_
     refine pl_a 107 ?_
     refine pl_r 24 (.pointer (some ⟨wc.heap.size,0,none⟩)) (wc.alloc (.cells mz.toArray 52)) (zr rfl (hmz _)) ?_
     refine pl_s ((wc.alloc (.cells mz.toArray 52)).setCells wc.heap.size 0 yq2) (zo (cs:=yq2.toArray) rfl rfl rfl (zn _ _ _ (by simp[hml,hl2])) (by simpa using iq2) (zp ho2)) ?_
     refine pl_a 25 ?_
     refine zb ?_
     have rX:=za rX hb sX
     have rS:=za rS hb sS
     have rT:=za rT hb sT
     have rA:=za rA hb sA
     have rE:=za rE hb sE
     have sX:=Nat.lt_of_lt_of_le sX hb.size
     have sS:=Nat.lt_of_lt_of_le sS hb.size
     have sT:=Nat.lt_of_lt_of_le sT hb.size
     have sA:=Nat.lt_of_lt_of_le sA hb.size
     have sE:=Nat.lt_of_lt_of_le sE hb.size
     have B:=B.trans (hb.mono B.size)
     have hk:=hk.below hb
     obtain⟨rG,hF,hF3,-⟩:=zq wc mz.toArray 52 yq2 (by simp[hml,hl2])
     have rX:=za rX hF sX
     have rS:=za rS hF sS
     have rT:=za rT hF sT
     have rA:=za rA hF sA
     have rE:=za rE hF sE
     have sX:=Nat.lt_of_lt_of_le sX hF.size
     have sS:=Nat.lt_of_lt_of_le sS hF.size
     have sT:=Nat.lt_of_lt_of_le sT hF.size
     have sA:=Nat.lt_of_lt_of_le sA hF.size
     have sE:=Nat.lt_of_lt_of_le sE hF.size
     have y2a:=y2a.below hF
     have B:=B.trans (hF.mono B.size)
     have hk:=hk.below hF
     obtain⟨D6,hD6⟩:∃D,wc.heap.size=D:=⟨_,rfl⟩
     have sG:wc.heap.size<((wc.alloc (.cells mz.toArray 52)).setCells wc.heap.size 0 yq2).heap.size:=by omega
     rw[hD6]at rG sG rX sX rS sS rT sT rA sA rE sE y2a B hk
     simp only[hD6]
     obtain⟨v6,hv6⟩:∃W,(wc.alloc (.cells mz.toArray 52)).setCells D6 0 yq2=W:=⟨_,rfl⟩
     rw[hv6]at rG sG rX sX rS sS rT sT rA sA rE sE y2a B hk
     rw[hv6]
     clear hv6 hD6 hF hF3
     clear hb
     clear cO2 y2p y2o y2a rA sA rG sG
     go_upto_region 17 with fail
     refine pl_b ?_
     refine pl_a 109 ?_
     refine pl_v 110 (.agg bq.toArray) (zm rfl rfl rE underlying25 rfl ib) ?_
     refine pl_c 111 ?_
     refine(cO3 v6 (HG.out.below B) hk).mono ?_
     rintro _ wc ⟨y3,rfl,y3p,y3o,y3a,hb⟩
     have hl3:=y3o.ms.len
     have ho3:=y3o.ms.one
     have iq3:(prog.info? 52).map (·.size)=some y3.ms.cells.length:=by rw[hl3];exact iszM
     obtain⟨yq3,hyq3⟩:∃q,Hid (y3.ms.cells=q):=⟨_,hide rfl⟩
     simp only[hyq3.out]at hl3 ho3 iq3 ⊢
     refine⟨_,rfl,?_⟩
     simp only[nz]
     refine pl_a 108 ?_
     refine pl_a 112 ?_
     refine pl_a 113 ?_
     refine pl_r 26 (.pointer (some ⟨wc.heap.size,0,none⟩)) (wc.alloc (.cells mz.toArray 52)) (zr rfl (hmz _)) ?_
     refine pl_s ((wc.alloc (.cells mz.toArray 52)).setCells wc.heap.size 0 yq3) (zo (cs:=yq3.toArray) rfl rfl rfl (zn _ _ _ (by simp[hml,hl3])) (by simpa using iq3) (zp ho3)) ?_
     refine pl_a 27 ?_
     refine zb ?_
     have rX:=za rX hb sX
     have rS:=za rS hb sS
     have rT:=za rT hb sT
     have rE:=za rE hb sE
     have sX:=Nat.lt_of_lt_of_le sX hb.size
     have sS:=Nat.lt_of_lt_of_le sS hb.size
     have sT:=Nat.lt_of_lt_of_le sT hb.size
     have sE:=Nat.lt_of_lt_of_le sE hb.size
     have B:=B.trans (hb.mono B.size)
     have hk:=hk.below hb
     obtain⟨rH,hF,hF3,-⟩:=zq wc mz.toArray 52 yq3 (by simp[hml,hl3])
     have rX:=za rX hF sX
     have rS:=za rS hF sS
     have rT:=za rT hF sT
     have rE:=za rE hF sE
     have sX:=Nat.lt_of_lt_of_le sX hF.size
     have sS:=Nat.lt_of_lt_of_le sS hF.size
     have sT:=Nat.lt_of_lt_of_le sT hF.size
     have sE:=Nat.lt_of_lt_of_le sE hF.size
     have y3a:=y3a.below hF
     have B:=B.trans (hF.mono B.size)
     have hk:=hk.below hF
     obtain⟨D7,hD7⟩:∃D,wc.heap.size=D:=⟨_,rfl⟩
     have sH:wc.heap.size<((wc.alloc (.cells mz.toArray 52)).setCells wc.heap.size 0 yq3).heap.size:=by omega
     rw[hD7]at rH sH rX sX rS sS rT sT rE sE y3a B hk
     simp only[hD7]
     obtain⟨v7,hv7⟩:∃W,(wc.alloc (.cells mz.toArray 52)).setCells D7 0 yq3=W:=⟨_,rfl⟩
     rw[hv7]at rH sH rX sX rS sS rT sT rE sE y3a B hk
     rw[hv7]
     clear hv7 hD7 hF hF3
     clear hb
     clear cO3 y3p y3o y3a rE sE rH sH
     have rX2:v7.rangeAt D2 2 q0:=fun j v hv=>by
      have:=rX (j+2) v (by rw[←hxq.out];simpa using hv)
      rw[show 0+(j+2)=2+j by omega]at this
      exact this
     have h2:=G2.out
     have h3:=G3.out
     clear hxq G2 G3
     go_upto_region 18 with fail
     refine pl_b ?_
     refine pl_a 114 ?_
     refine pl_v 115 (.bool c2) (by go_simp<;>(try simp[h2])) ?_
     refine pl_v 116 (.agg q1.toArray) (zm rfl rfl rS underlying23 rfl i1) ?_
     refine pl_v 117 (.pointer (some ⟨D2,2,none⟩)) (by go_simp) ?_
     refine pl_v 118 (.agg q0.toArray) (zm rfl rfl rX2 underlying23 rfl i0) ?_
     refine pl_v 119 (.bool c2) (zdm rfl rfl rfl (by kernel_rfl) (hn2 _)) ?_
     refine pl_v 120 (.bool true) (by go_simp<;>(try simp)) ?_
     refine pl_a 121 ?_
     refine pl_a 122 ?_
     refine pl_v 123 (.bool c3) (by go_simp<;>(try simp[h3])) ?_
     refine pl_v 124 (.agg q2.toArray) (zm rfl rfl rT underlying23 rfl i2) ?_
     refine pl_v 125 (.pointer (some ⟨D2,2,none⟩)) (by go_simp) ?_
     refine pl_v 126 (.agg q0.toArray) (zm rfl rfl rX2 underlying23 rfl i0) ?_
     refine pl_v 127 (.bool c3) (zdm rfl rfl rfl (by kernel_rfl) (hn3 _)) ?_
     refine pl_v 128 (.bool true) (by go_simp<;>(try simp)) ?_
     refine pl_a 129 ?_
     refine pl_a 130 ?_
     refine pl_c 131 ?_
     refine(zdc v7 (HG.out.below B)).mono ?_
     rintro _ wL ⟨rfl,hbL⟩
     refine⟨_,rfl,?_⟩
     simp only[nz]
     refine pl_a 132 ?_
     refine pl_a 8 ?_
     refine zb ?_
     have HB:=hide (B.trans (hbL.mono B.size))
     clear B hbL rX rX2 rS rT h2 h3 hk
     go_wp2_with fail
     go_ret
     exact⟨rfl,HB.out⟩
end Go.Proofs.YtcbpbkefggekmaaGreatDoor
