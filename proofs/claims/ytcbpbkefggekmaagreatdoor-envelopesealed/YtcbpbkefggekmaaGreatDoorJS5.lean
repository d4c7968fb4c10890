/- rows of signs, envelopes, requests; envelopes and requests compared; lists compared; batches and certs compared; what was held, compared; requests and batches a -/
import Derived.Test.YtcbpbkefggekmaaGreatDoorJS0
import Derived.Test.YtcbpbkefggekmaaGreatDoorJS4
import Derived.Test.YtcbpbkefggekmaaGreatDoorJS3
import Derived.Laws.MakeOwn
import Derived.Deep.OwnRows
import Derived.Test.YtcbpbkefggekmaaGreatDoorJS1
import Derived.Deep.Upon
set_option maxHeartbeats 2000000
set_option maxRecDepth 100000
open Go.Proofs.Tryz
namespace Go.Proofs.YtcbpbkefggekmaaGreatDoor
open Go.RowKit
open Sha Tal
def RowOf {α:Type} (f:α→List Value) (w:World) (a:Option Addr) (ys:List α):Prop:=ys=[]∨∃b off,a=some ⟨b,off,none⟩∧b<w.heap.size∧w.rangeAt b off (ys.flatMap f)
theorem RowOf.below {α:Type} {f:α→List Value} {w w':World} {a:Option Addr} {ys:List α} (h:RowOf f w a ys) (hb:Below w.heap.size w w'):RowOf f w' a ys:=by
 rcases h with h|⟨b,off,rfl,h1,h2⟩
 ·exact .inl h
 ·exact .inr ⟨b,off,rfl,Nat.lt_of_lt_of_le h1 hb.size,za h2 hb h1⟩
theorem zem {α:Type} {f:α→List Value} {k:Nat} {ys:List α} (h:∀y∈ys,(f y).length=k):(ys.flatMap f).length=ys.length*k:=by
  induction ys with
  |nil=>simp
  |cons y ys ih=>
    have h1:=h y (by simp)
    have h2:=ih (fun x hx=>h x (by simp[hx]))
    simp only[List.flatMap_cons,List.length_append,List.length_cons,Nat.add_mul,Nat.one_mul]
    omega
theorem RowOf.elem {α:Type} {f:α→List Value} {k:Nat} {w:World} {a:Option Addr} {ys:List α} (h:RowOf f w a ys) (hk:∀y∈ys,(f y).length=k) (i:Nat) (hi:i<ys.length):∃b off,a=some ⟨b,off,none⟩∧b<w.heap.size∧w.rangeAt b (off+i*k) (f ys[i]):=by
 rcases h with h0|⟨b,off,rfl,h1,h2⟩
 ·subst h0;simp at hi
 ·refine⟨b,off,rfl,h1,?_⟩
  have e:ys.take i++(ys[i]::ys.drop (i+1))=ys:=by rw[←List.drop_eq_getElem_cons hi,List.take_append_drop]
  have e2:ys.flatMap f=(ys.take i).flatMap f++f ys[i]++(ys.drop (i+1)).flatMap f:=by
   have:=congrArg (List.flatMap f) e
   rw[←this]
   simp only[List.flatMap_append,List.flatMap_cons,List.append_assoc]
  rw[e2]at h2
  have h3:=zdY h2
  rwa [zem (fun y hy=>hk y (List.mem_of_mem_take hy)),List.length_take,Nat.min_eq_left (by omega)]at h3
structure El (α:Type) where
 f:α→List Value
 k:Nat
 ok:α→Prop
 len:∀y,ok y→(f y).length=k
 one:∀y,∀v∈f y,v.oneCell'=true
def RowsAt {α:Type} (E:El α) (w:World) (a:Option Addr) (ys:List α):Prop:=ys.length≤maxLen∧(∀y∈ys,E.ok y)∧RowOf E.f w a ys
theorem RowsAt.below {α:Type} {E:El α} {w w':World} {a:Option Addr} {ys:List α} (h:RowsAt E w a ys) (hb:Below w.heap.size w w'):RowsAt E w' a ys:=⟨h.1,h.2.1,h.2.2.below hb⟩
theorem RowsAt.elem {α:Type} {E:El α} {w:World} {a:Option Addr} {ys:List α} (h:RowsAt E w a ys) (i:Nat) (hi:i<ys.length):∃b off,a=some ⟨b,off,none⟩∧b<w.heap.size∧w.rangeAt b (off+i*E.k) (E.f ys[i]):=h.2.2.elem (fun y hy=>E.len y (h.2.1 y hy)) i hi
theorem RowsAt.none {α:Type} {E:El α} {w:World} {a:Option Addr}:RowsAt E w a []:=⟨by simp,by simp,.inl rfl⟩
structure Sg where
 n:Int
 t:List Int
deriving Inhabited
structure Sg.ok (r:Sg):Prop where
 tl:r.t.length=16
 tb:∀z∈r.t,0≤z∧z<256
 nl:-9223372036854775808≤r.n
 nh:r.n≤9223372036854775807
def Sg.cells (r:Sg):List Value:=.int .i64 r.n::v8 r.t
def SgE:El Sg where
 f:=Sg.cells
 k:=17
 ok:=Sg.ok
 len:=fun r h=>by have:=h.tl;simp[Sg.cells,v8];omega
 one:=fun r v hv=>by
  rcases List.mem_cons.1 hv with rfl|hv
  ·rfl
  ·exact zy r.t v hv
structure Ev where
 n:Int
 s:ByteArray
 t:List Int
deriving Inhabited
structure Ev.ok (r:Ev):Prop where
 tl:r.t.length=16
 tb:∀z∈r.t,0≤z∧z<256
 sl:r.s.size≤maxLen
 nl:-9223372036854775808≤r.n
 nh:r.n≤9223372036854775807
def Ev.cells (r:Ev):List Value:=.int .i64 r.n::.string r.s::v8 r.t
def EvE:El Ev where
 f:=Ev.cells
 k:=18
 ok:=Ev.ok
 len:=fun r h=>by have:=h.tl;simp[Ev.cells,v8];omega
 one:=fun r v hv=>by
  simp only[Ev.cells,List.mem_cons]at hv
  rcases hv with rfl|rfl|hv
  ·rfl
  ·rfl
  ·exact zy r.t v hv
structure Rq where
 c:Int
 n:Int
 s:ByteArray
 t:List Int
deriving Inhabited
structure Rq.ok (r:Rq):Prop where
 tl:r.t.length=16
 tb:∀z∈r.t,0≤z∧z<256
 sl:r.s.size≤maxLen
 cl:-9223372036854775808≤r.c
 ch:r.c≤9223372036854775807
 nl:-9223372036854775808≤r.n
 nh:r.n≤9223372036854775807
def Rq.cells (r:Rq):List Value:=.int .i64 r.c::.int .i64 r.n::.string r.s::v8 r.t
def RqE:El Rq where
 f:=Rq.cells
 k:=19
 ok:=Rq.ok
 len:=fun r h=>by have:=h.tl;simp[Rq.cells,v8];omega
 one:=fun r v hv=>by
  simp only[Rq.cells,List.mem_cons]at hv
  rcases hv with rfl|rfl|rfl|hv
  ·rfl
  ·rfl
  ·rfl
  ·exact zy r.t v hv
theorem zdB {a b:ByteArray}:a.toList=b.toList↔a=b:=by
 constructor
 ·intro h
  rw[ByteArray.toList_eq,ByteArray.toList_eq]at h
  exact ByteArray.ext (Array.toList_inj.1 h)
 ·intro h;rw[h]
theorem iszT:(prog.info? 23).map (·.size)=some 16:=by kernel_rfl
theorem zcY (w:World) (q:List Value) (i:Nat) (c:ByteArray) (h:q[i]? =some (.string c)):(part 9 q.toArray i).run prog w=.ok (.string c) w:=by
 simp[part,isAgg,run_underlying underlying9,h]
theorem zbT (w:World) (q:List Value) (i:Nat) (t:List Int) (h:List.take 16 (List.drop i q)=v8 t):(part 23 q.toArray i).run prog w=.ok (.agg (v8 t).toArray) w:=by
 simp[part,isAgg,run_underlying underlying23,zbR iszT,h]
theorem fldSg : (prog.fieldsOf 133).toList.map (fun f => (f.name, f.type, f.offset)) = [("Node", 3, 0), ("Tag", 23, 1)] := by kernel_rfl
theorem undSg:prog.underlying 133=some (.struct (prog.fieldsOf 133)):=by kernel_rfl
theorem sihSg:prog.stoodInHeld 133=false:=by kernel_rfl
def Sg.B (x y:Sg):Bool:=(x.n==y.n)&&((x.t==y.t))
theorem Sg.B_iff {x y:Sg}:Sg.B x y=true↔x=y:=by
 cases x
 cases y
 simp[Sg.B]
theorem Sg.eqIn (x y:Sg) (hx:x.t.length=16) (hy:y.t.length=16) (d:Nat) (w:World):
  (Op.equalIn (d+2+1) 133 (.agg x.cells.toArray) (.agg y.cells.toArray)).run prog w=.ok (Sg.B x y) w:=by
 rw[run_equalIn_struct w (d+2) 133 _ _ undSg sihSg]
 have hf:=fldSg
 generalize (prog.fieldsOf 133).toList=fs at hf
 obtain⟨f0,f1,rfl⟩:∃f0 f1,fs=[f0,f1]:=by
  rcases fs with _|⟨f0,_|⟨f1,_|⟨f2,fs⟩⟩⟩<;>simp at hf
  exact⟨f0,f1,rfl⟩
 simp only[List.map_cons,List.map_nil,List.cons.injEq,Prod.mk.injEq,and_true]at hf
 obtain⟨⟨a0,b0,d0⟩,⟨a1,b1,d1⟩⟩:=hf
 have p0:=zas w x.cells 0 x.n rfl
 have q0:=zas w y.cells 0 y.n rfl
 have p1:=zbT w x.cells 1 x.t (by show List.take 16 (v8 x.t)=v8 x.t;rw[List.take_of_length_le (by rw[v8_length,hx];exact Nat.le_refl _)])
 have q1:=zbT w y.cells 1 y.t (by show List.take 16 (v8 y.t)=v8 y.t;rw[List.take_of_length_le (by rw[v8_length,hy];exact Nat.le_refl _)])
 have eI:=fun a b=>run_equalIn_int (P:=prog) w (d+1) 3 .i64 .i64 a b underlying3
 have eT:=zbw (P:=prog) w d 23 5 16 underlying23 underlying5 isz8 x.t y.t hx hy
 unfold Sg.B
 generalize x.cells.toArray=q at *
 generalize y.cells.toArray=q' at *
 obtain⟨T,hT⟩:∃T,(v8 x.t).toArray=T:=⟨_,rfl⟩
 obtain⟨T',hT'⟩:∃T,(v8 y.t).toArray=T:=⟨_,rfl⟩
 rw[hT]at p1 eT
 rw[hT']at q1 eT
 clear hT hT'
 obtain⟨D,hD⟩:∃D,d+1+1=D:=⟨_,rfl⟩
 have eT:(Op.equalIn (d+1+1) 23 (.agg T) (.agg T')).run prog w=.ok (x.t==y.t) w:=eT
 rw[hD]at eT
 have n0 : ¬ ("Node" = "_") := by decide
 have n1 : ¬ ("Tag" = "_") := by decide
 simp only[Op.eqFields,a0,b0,d0,a1,b1,d1,ne_eq,n0,n1,not_false_eq_true,if_true]
 rw[show d+2=d+1+1 from rfl,hD]
 rw[hD]at eI
 clear hD
 simp only[Sem.run_bind,p0,q0,Result.andThen_ok,eI]
 cases (x.n==y.n)
 ·simp only[Bool.not_false,if_true,Sem.run_pure,Bool.false_and]
 ·simp only[Bool.not_true,Bool.false_eq_true,if_false,Sem.run_bind,p1,q1,Result.andThen_ok,eT,Bool.true_and]
  cases (x.t==y.t)
  ·simp only[Bool.not_false,if_true,Sem.run_pure]
  ·simp only[Bool.not_true,Bool.false_eq_true,if_false,Sem.run_pure]
theorem Sg.eq10 (x y:Sg) (hx:x.ok) (hy:y.ok) (w:World):(Op.equalIn 10000 133 (.agg x.cells.toArray) (.agg y.cells.toArray)).run prog w=.ok (Sg.B x y) w:=Sg.eqIn x y hx.tl hy.tl 9997 w
theorem fldEv : (prog.fieldsOf 25).toList.map (fun f => (f.name, f.type, f.offset)) = [("From", 3, 0), ("Body", 9, 1), ("Tag", 23, 2)] := by kernel_rfl
theorem undEv:prog.underlying 25=some (.struct (prog.fieldsOf 25)):=by kernel_rfl
theorem sihEv:prog.stoodInHeld 25=false:=by kernel_rfl
def Ev.B (x y:Ev):Bool:=(x.n==y.n)&&((x.s.toList==y.s.toList)&&((x.t==y.t)))
theorem Ev.B_iff {x y:Ev}:Ev.B x y=true↔x=y:=by
 cases x
 cases y
 simp[Ev.B,zdB]
theorem Ev.eqIn (x y:Ev) (hx:x.t.length=16) (hy:y.t.length=16) (d:Nat) (w:World):
  (Op.equalIn (d+2+1) 25 (.agg x.cells.toArray) (.agg y.cells.toArray)).run prog w=.ok (Ev.B x y) w:=by
 rw[run_equalIn_struct w (d+2) 25 _ _ undEv sihEv]
 have hf:=fldEv
 generalize (prog.fieldsOf 25).toList=fs at hf
 obtain⟨f0,f1,f2,rfl⟩:∃f0 f1 f2,fs=[f0,f1,f2]:=by
  rcases fs with _|⟨f0,_|⟨f1,_|⟨f2,_|⟨f3,fs⟩⟩⟩⟩<;>simp at hf
  exact⟨f0,f1,f2,rfl⟩
 simp only[List.map_cons,List.map_nil,List.cons.injEq,Prod.mk.injEq,and_true]at hf
 obtain⟨⟨a0,b0,d0⟩,⟨a1,b1,d1⟩,⟨a2,b2,d2⟩⟩:=hf
 have p0:=zas w x.cells 0 x.n rfl
 have q0:=zas w y.cells 0 y.n rfl
 have p1:=zcY w x.cells 1 x.s rfl
 have q1:=zcY w y.cells 1 y.s rfl
 have p2:=zbT w x.cells 2 x.t (by show List.take 16 (v8 x.t)=v8 x.t;rw[List.take_of_length_le (by rw[v8_length,hx];exact Nat.le_refl _)])
 have q2:=zbT w y.cells 2 y.t (by show List.take 16 (v8 y.t)=v8 y.t;rw[List.take_of_length_le (by rw[v8_length,hy];exact Nat.le_refl _)])
 have eI:=fun a b=>run_equalIn_int (P:=prog) w (d+1) 3 .i64 .i64 a b underlying3
 have eS:=fun a b=>run_equalIn_string (P:=prog) w (d+1) 9 a b underlying9
 have eT:=zbw (P:=prog) w d 23 5 16 underlying23 underlying5 isz8 x.t y.t hx hy
 unfold Ev.B
 generalize x.cells.toArray=q at *
 generalize y.cells.toArray=q' at *
 obtain⟨T,hT⟩:∃T,(v8 x.t).toArray=T:=⟨_,rfl⟩
 obtain⟨T',hT'⟩:∃T,(v8 y.t).toArray=T:=⟨_,rfl⟩
 rw[hT]at p2 eT
 rw[hT']at q2 eT
 clear hT hT'
 obtain⟨D,hD⟩:∃D,d+1+1=D:=⟨_,rfl⟩
 have eT:(Op.equalIn (d+1+1) 23 (.agg T) (.agg T')).run prog w=.ok (x.t==y.t) w:=eT
 rw[hD]at eT
 have n0 : ¬ ("From" = "_") := by decide
 have n1 : ¬ ("Body" = "_") := by decide
 have n2 : ¬ ("Tag" = "_") := by decide
 simp only[Op.eqFields,a0,b0,d0,a1,b1,d1,a2,b2,d2,ne_eq,n0,n1,n2,not_false_eq_true,if_true]
 rw[show d+2=d+1+1 from rfl,hD]
 rw[hD]at eI
 simp only[hD]at eS
 clear hD
 simp only[Sem.run_bind,p0,q0,Result.andThen_ok,eI]
 cases (x.n==y.n)
 ·simp only[Bool.not_false,if_true,Sem.run_pure,Bool.false_and]
 ·simp only[Bool.not_true,Bool.false_eq_true,if_false,Sem.run_bind,p1,q1,Result.andThen_ok,eS,Bool.true_and]
  cases (x.s.toList==y.s.toList)
  ·simp only[Bool.not_false,if_true,Sem.run_pure,Bool.false_and]
  ·simp only[Bool.not_true,Bool.false_eq_true,if_false,Sem.run_bind,p2,q2,Result.andThen_ok,eT,Bool.true_and]
   cases (x.t==y.t)
   ·simp only[Bool.not_false,if_true,Sem.run_pure]
   ·simp only[Bool.not_true,Bool.false_eq_true,if_false,Sem.run_pure]
theorem Ev.eq10 (x y:Ev) (hx:x.ok) (hy:y.ok) (w:World):(Op.equalIn 10000 25 (.agg x.cells.toArray) (.agg y.cells.toArray)).run prog w=.ok (Ev.B x y) w:=Ev.eqIn x y hx.tl hy.tl 9997 w
theorem fldRq : (prog.fieldsOf 81).toList.map (fun f => (f.name, f.type, f.offset)) = [("Client", 3, 0), ("Num", 3, 1), ("Data", 9, 2), ("Tag", 23, 3)] := by kernel_rfl
theorem undRq:prog.underlying 81=some (.struct (prog.fieldsOf 81)):=by kernel_rfl
theorem sihRq:prog.stoodInHeld 81=false:=by kernel_rfl
def Rq.B (x y:Rq):Bool:=(x.c==y.c)&&((x.n==y.n)&&((x.s.toList==y.s.toList)&&((x.t==y.t))))
theorem Rq.B_iff {x y:Rq}:Rq.B x y=true↔x=y:=by
 cases x
 cases y
 simp[Rq.B,zdB]
theorem Rq.eqIn (x y:Rq) (hx:x.t.length=16) (hy:y.t.length=16) (d:Nat) (w:World):
  (Op.equalIn (d+2+1) 81 (.agg x.cells.toArray) (.agg y.cells.toArray)).run prog w=.ok (Rq.B x y) w:=by
 rw[run_equalIn_struct w (d+2) 81 _ _ undRq sihRq]
 have hf:=fldRq
 generalize (prog.fieldsOf 81).toList=fs at hf
 obtain⟨f0,f1,f2,f3,rfl⟩:∃f0 f1 f2 f3,fs=[f0,f1,f2,f3]:=by
  rcases fs with _|⟨f0,_|⟨f1,_|⟨f2,_|⟨f3,_|⟨f4,fs⟩⟩⟩⟩⟩<;>simp at hf
  exact⟨f0,f1,f2,f3,rfl⟩
 simp only[List.map_cons,List.map_nil,List.cons.injEq,Prod.mk.injEq,and_true]at hf
 obtain⟨⟨a0,b0,d0⟩,⟨a1,b1,d1⟩,⟨a2,b2,d2⟩,⟨a3,b3,d3⟩⟩:=hf
 have p0:=zas w x.cells 0 x.c rfl
 have q0:=zas w y.cells 0 y.c rfl
 have p1:=zas w x.cells 1 x.n rfl
 have q1:=zas w y.cells 1 y.n rfl
 have p2:=zcY w x.cells 2 x.s rfl
 have q2:=zcY w y.cells 2 y.s rfl
 have p3:=zbT w x.cells 3 x.t (by show List.take 16 (v8 x.t)=v8 x.t;rw[List.take_of_length_le (by rw[v8_length,hx];exact Nat.le_refl _)])
 have q3:=zbT w y.cells 3 y.t (by show List.take 16 (v8 y.t)=v8 y.t;rw[List.take_of_length_le (by rw[v8_length,hy];exact Nat.le_refl _)])
 have eI:=fun a b=>run_equalIn_int (P:=prog) w (d+1) 3 .i64 .i64 a b underlying3
 have eS:=fun a b=>run_equalIn_string (P:=prog) w (d+1) 9 a b underlying9
 have eT:=zbw (P:=prog) w d 23 5 16 underlying23 underlying5 isz8 x.t y.t hx hy
 unfold Rq.B
 generalize x.cells.toArray=q at *
 generalize y.cells.toArray=q' at *
 obtain⟨T,hT⟩:∃T,(v8 x.t).toArray=T:=⟨_,rfl⟩
 obtain⟨T',hT'⟩:∃T,(v8 y.t).toArray=T:=⟨_,rfl⟩
 rw[hT]at p3 eT
 rw[hT']at q3 eT
 clear hT hT'
 obtain⟨D,hD⟩:∃D,d+1+1=D:=⟨_,rfl⟩
 have eT:(Op.equalIn (d+1+1) 23 (.agg T) (.agg T')).run prog w=.ok (x.t==y.t) w:=eT
 rw[hD]at eT
 have n0 : ¬ ("Client" = "_") := by decide
 have n1 : ¬ ("Num" = "_") := by decide
 have n2 : ¬ ("Data" = "_") := by decide
 have n3 : ¬ ("Tag" = "_") := by decide
 simp only[Op.eqFields,a0,b0,d0,a1,b1,d1,a2,b2,d2,a3,b3,d3,ne_eq,n0,n1,n2,n3,not_false_eq_true,if_true]
 rw[show d+2=d+1+1 from rfl,hD]
 rw[hD]at eI
 simp only[hD]at eS
 clear hD
 simp only[Sem.run_bind,p0,q0,Result.andThen_ok,eI]
 cases (x.c==y.c)
 ·simp only[Bool.not_false,if_true,Sem.run_pure,Bool.false_and]
 ·simp only[Bool.not_true,Bool.false_eq_true,if_false,Sem.run_bind,p1,q1,Result.andThen_ok,eI,Bool.true_and]
  cases (x.n==y.n)
  ·simp only[Bool.not_false,if_true,Sem.run_pure,Bool.false_and]
  ·simp only[Bool.not_true,Bool.false_eq_true,if_false,Sem.run_bind,p2,q2,Result.andThen_ok,eS,Bool.true_and]
   cases (x.s.toList==y.s.toList)
   ·simp only[Bool.not_false,if_true,Sem.run_pure,Bool.false_and]
   ·simp only[Bool.not_true,Bool.false_eq_true,if_false,Sem.run_bind,p3,q3,Result.andThen_ok,eT,Bool.true_and]
    cases (x.t==y.t)
    ·simp only[Bool.not_false,if_true,Sem.run_pure]
    ·simp only[Bool.not_true,Bool.false_eq_true,if_false,Sem.run_pure]
theorem Rq.eq10 (x y:Rq) (hx:x.ok) (hy:y.ok) (w:World):(Op.equalIn 10000 81 (.agg x.cells.toArray) (.agg y.cells.toArray)).run prog w=.ok (Rq.B x y) w:=Rq.eqIn x y hx.tl hy.tl 9997 w
def sameL {α:Type} (B:α→α→Bool):List α→List α→Bool
  |[],[]=>true
  |x::xs,y::ys=>B x y&&sameL B xs ys
  |_,_=>false
theorem zay {α:Type} {B:α→α→Bool} (h:∀x y,B x y=true↔x=y):∀xs ys:List α,sameL B xs ys=true↔xs=ys
  |[],[]=>by simp[sameL]
  |x::xs,y::ys=>by simp[sameL,h,zay h xs ys]
  |[],_::_=>by simp[sameL]
  |_::_,[]=>by simp[sameL]
theorem zl7 (a:Option Addr) (cap:Nat) (rs:List Sg) (a':Option Addr) (cap':Nat) (rs':List Sg) (w:World) (h:RowsAt SgE w a rs) (h':RowsAt SgE w a' rs'):
  Calls prog 134 #[.slice a rs.length cap,.slice a' rs'.length cap'] w fun e w'=>((e=.returned (.bool true)∧rs=rs')∨(e=.returned (.bool false)∧¬rs=rs'))∧Below w.heap.size w w':=by
 have hml:=h.1
 have hml':=h'.1
 unfold maxLen at hml hml'
 have hall:=h.2.1
 have hall':=h'.2.1
 by_cases hlen:rs.length=rs'.length
 rotate_left
 ·have e0:((rs.length:Int)==rs'.length)=false:=by simp;omega
  have HL:=hide hlen
  clear hlen
  go_enter func134,ntmps134
  go_wp2
  go_ret
  exact⟨.inr ⟨rfl,fun hh=>HL.out (by rw[hh])⟩,Below.refl _ _⟩
 ·have e0:((rs.length:Int)==rs'.length)=true:=by simp;omega
  have HL:=hide hlen
  clear hlen
  go_enter func134,ntmps134
  go_wp2
  go_loopw [13] (fun iv wr=>∃k:Nat,k≤rs.length∧iv=.int .i64 (k:Int)∧Hid (∀j (hj:j<rs.length) (hj':j<rs'.length),j<k→rs[j]=rs'[j])∧Below w.heap.size w wr) (fun iv _=>rs.length - (intOf iv).toNat)
  case atStart=>exact⟨0,by omega,rfl,hide (fun j _ _ hj=>absurd hj (by omega)),Below.refl _ _⟩
  case round=>
   clear e0
   obtain⟨k,hk,rfl,HM,hB⟩:=hrel
   by_cases hlt:k<rs.length
   ·have k1:(k:Int)<rs.length:=by omega
    have hlt':k<rs'.length:=by have:=HL.out;omega
    have k1':(k:Int)<rs'.length:=by omega
    obtain⟨b,off,rfl,hb,hre⟩:=(h.below hB).elem k hlt
    have hre:wr.rangeAt b (off+k*17) rs[k].cells:=hre
    obtain⟨b',off',rfl,hb',hre'⟩:=(h'.below hB).elem k hlt'
    have hre':wr.rangeAt b' (off'+k*17) rs'[k].cells:=hre'
    obtain⟨r,hr⟩:∃r,Hid (rs[k]=r):=⟨_,hide rfl⟩
    obtain⟨r',hr'⟩:∃r',Hid (rs'[k]=r'):=⟨_,hide rfl⟩
    have hok:r.ok:=by rw[←hr.out];exact hall _ (List.getElem_mem hlt)
    have hok':r'.ok:=by rw[←hr'.out];exact hall' _ (List.getElem_mem hlt')
    rw[hr.out]at hre
    rw[hr'.out]at hre'
    have HM':Hid (r=r'→∀j (hj:j<rs.length) (hj':j<rs'.length),j<k+1→rs[j]=rs'[j]):=hide (fun hp j hj hj' hjk=>by
     by_cases e:j=k
     ·subst e;rw[hr.out,hr'.out];exact hp
     ·exact HM.out j hj hj' (by omega))
    have HN':Hid (r≠r'→rs≠rs'):=hide (fun hp he=>by
     apply hp
     rw[←hr.out,←hr'.out]
     subst he
     rfl)
    clear hr hr' HM
    have hiu:(prog.info? 133).map (·.size)=some r.cells.length:=by rw[show r.cells.length=17 from SgE.len r hok];kernel_rfl
    have hiu':(prog.info? 133).map (·.size)=some r'.cells.length:=by rw[show r'.cells.length=17 from SgE.len r' hok'];kernel_rfl
    have hne:=fun w0=>Sg.eq10 r r' hok hok' w0
    obtain⟨u,hu⟩:∃u,Hid (r.cells=u):=⟨_,hide rfl⟩
    obtain⟨u',hu'⟩:∃u',Hid (r'.cells=u'):=⟨_,hide rfl⟩
    rw[hu.out]at hre hiu
    rw[hu'.out]at hre' hiu'
    simp only[hu.out,hu'.out]at hne
    clear hu hu' hok hok'
    by_cases hrr:r=r'
    ·have e1:Sg.B r r'=true:=Sg.B_iff.2 hrr
     rw[e1]at hne
     have HR:=hide hrr
     clear hrr e1
     go_upto_region 6 with fail
     obtain⟨w5,hw5⟩:∃w5,wr.drew=w5:=⟨_,rfl⟩
     have hB5:Below w.heap.size w w5:=by rw[←hw5];exact hB.drew
     have hre5:w5.rangeAt b (off+k*17) u:=by rw[←hw5];exact(World.rangeAt_drew _ _ _ _).2 hre
     have hre5':w5.rangeAt b' (off'+k*17) u':=by rw[←hw5];exact(World.rangeAt_drew _ _ _ _).2 hre'
     have hb5:b<w5.heap.size:=by rw[←hw5];exact hb
     have hb5':b'<w5.heap.size:=by rw[←hw5];exact hb'
     refine zw (S:=(Below w5.heap.size w5)) 9 rfl (by kernel_rfl) ?_
     rw[hw5]
     clear hw5 hB hre hre' hb hb'
     have hS:(Below w5.heap.size w5) w5:=Below.refl _ _
     refine hs_a 0 16 hS ?_
     refine hs_a 1 17 hS ?_
     refine hs_a 2 18 hS ?_
     refine hs_v 3 19 (.agg u.toArray) rfl (fun w' hw=>zu rfl rfl (run_loadVar_mid (P:=prog) w' b (off+k*17) 133 u _ (za hre5 hw hb5) underlying133 rfl hiu)) hS ?_
     refine hs_a 4 20 hS ?_
     refine hs_a 5 21 hS ?_
     refine hs_a 6 22 hS ?_
     refine hs_v 7 23 (.agg u'.toArray) rfl (fun w' hw=>zu rfl rfl (run_loadVar_mid (P:=prog) w' b' (off'+k*17) 133 u' _ (za hre5' hw hb5') underlying133 rfl hiu')) hS ?_
     refine hs_v 8 24 (.bool false) rfl (fun w' hw=>by have hc:=hne w';go_simp) hS ?_
     refine zv (by kernel_rfl) ?_
     go_wp2
     go_roundw
     case rel=>exact⟨k+1,by omega,by go_num,hide (HM'.out HR.out),hB5⟩
     case measure=>simp[intOf];omega
    ·have e1:Sg.B r r'=false:=by
      cases hx:Sg.B r r'
      ·rfl
      ·exact absurd (Sg.B_iff.1 hx) hrr
     rw[e1]at hne
     have HR:=hide hrr
     clear hrr e1
     go_upto_region 6 with fail
     obtain⟨w5,hw5⟩:∃w5,wr.drew=w5:=⟨_,rfl⟩
     have hB5:Below w.heap.size w w5:=by rw[←hw5];exact hB.drew
     have hre5:w5.rangeAt b (off+k*17) u:=by rw[←hw5];exact(World.rangeAt_drew _ _ _ _).2 hre
     have hre5':w5.rangeAt b' (off'+k*17) u':=by rw[←hw5];exact(World.rangeAt_drew _ _ _ _).2 hre'
     have hb5:b<w5.heap.size:=by rw[←hw5];exact hb
     have hb5':b'<w5.heap.size:=by rw[←hw5];exact hb'
     refine zw (S:=(Below w5.heap.size w5)) 9 rfl (by kernel_rfl) ?_
     rw[hw5]
     clear hw5 hB hre hre' hb hb'
     have hS:(Below w5.heap.size w5) w5:=Below.refl _ _
     refine hs_a 0 16 hS ?_
     refine hs_a 1 17 hS ?_
     refine hs_a 2 18 hS ?_
     refine hs_v 3 19 (.agg u.toArray) rfl (fun w' hw=>zu rfl rfl (run_loadVar_mid (P:=prog) w' b (off+k*17) 133 u _ (za hre5 hw hb5) underlying133 rfl hiu)) hS ?_
     refine hs_a 4 20 hS ?_
     refine hs_a 5 21 hS ?_
     refine hs_a 6 22 hS ?_
     refine hs_v 7 23 (.agg u'.toArray) rfl (fun w' hw=>zu rfl rfl (run_loadVar_mid (P:=prog) w' b' (off'+k*17) 133 u' _ (za hre5' hw hb5') underlying133 rfl hiu')) hS ?_
     refine hs_v 8 24 (.bool true) rfl (fun w' hw=>by have hc:=hne w';go_simp) hS ?_
     refine zv (by kernel_rfl) ?_
     go_wp2
     go_ret
     exact⟨.inr ⟨rfl,fun hh=>HN'.out HR.out hh⟩,hB5⟩
   ·have k1:¬(k:Int)<rs.length:=by omega
    have HE:Hid (rs=rs'):=hide (List.ext_getElem HL.out (fun j hj hj'=>HM.out j hj hj' (by omega)))
    clear HM
    go_wp2
    go_ret
    exact⟨.inl ⟨rfl,HE.out⟩,hB⟩
theorem zhj (a:Option Addr) (cap:Nat) (rs:List Sg) (a':Option Addr) (cap':Nat) (rs':List Sg) (w:World) (h:RowsAt SgE w a rs) (h':RowsAt SgE w a' rs'):
  Calls prog 134 #[.slice a rs.length cap,.slice a' rs'.length cap'] w fun e w'=>e=.returned (.bool (sameL Sg.B rs rs'))∧Below w.heap.size w w':=by
 refine(zl7 a cap rs a' cap' rs' w h h').mono ?_
 rintro e w1 ⟨hc,hb⟩
 have I:=zay (fun x y=>Sg.B_iff (x:=x) (y:=y)) rs rs'
 refine⟨?_,hb⟩
 rcases hc with⟨rfl,he⟩|⟨rfl,he⟩
 ·rw[I.2 he]
 ·cases hq:sameL Sg.B rs rs'
  ·rfl
  ·exact absurd (I.1 hq) he
theorem zmb (a:Option Addr) (cap:Nat) (rs:List Ev) (a':Option Addr) (cap':Nat) (rs':List Ev) (w:World) (h:RowsAt EvE w a rs) (h':RowsAt EvE w a' rs'):
  Calls prog 132 #[.slice a rs.length cap,.slice a' rs'.length cap'] w fun e w'=>((e=.returned (.bool true)∧rs=rs')∨(e=.returned (.bool false)∧¬rs=rs'))∧Below w.heap.size w w':=by
 have hml:=h.1
 have hml':=h'.1
 unfold maxLen at hml hml'
 have hall:=h.2.1
 have hall':=h'.2.1
 by_cases hlen:rs.length=rs'.length
 rotate_left
 ·have e0:((rs.length:Int)==rs'.length)=false:=by simp;omega
  have HL:=hide hlen
  clear hlen
  go_enter func132,ntmps132
  go_wp2
  go_ret
  exact⟨.inr ⟨rfl,fun hh=>HL.out (by rw[hh])⟩,Below.refl _ _⟩
 ·have e0:((rs.length:Int)==rs'.length)=true:=by simp;omega
  have HL:=hide hlen
  clear hlen
  go_enter func132,ntmps132
  go_wp2
  go_loopw [13] (fun iv wr=>∃k:Nat,k≤rs.length∧iv=.int .i64 (k:Int)∧Hid (∀j (hj:j<rs.length) (hj':j<rs'.length),j<k→rs[j]=rs'[j])∧Below w.heap.size w wr) (fun iv _=>rs.length - (intOf iv).toNat)
  case atStart=>exact⟨0,by omega,rfl,hide (fun j _ _ hj=>absurd hj (by omega)),Below.refl _ _⟩
  case round=>
   clear e0
   obtain⟨k,hk,rfl,HM,hB⟩:=hrel
   by_cases hlt:k<rs.length
   ·have k1:(k:Int)<rs.length:=by omega
    have hlt':k<rs'.length:=by have:=HL.out;omega
    have k1':(k:Int)<rs'.length:=by omega
    obtain⟨b,off,rfl,hb,hre⟩:=(h.below hB).elem k hlt
    have hre:wr.rangeAt b (off+k*18) rs[k].cells:=hre
    obtain⟨b',off',rfl,hb',hre'⟩:=(h'.below hB).elem k hlt'
    have hre':wr.rangeAt b' (off'+k*18) rs'[k].cells:=hre'
    obtain⟨r,hr⟩:∃r,Hid (rs[k]=r):=⟨_,hide rfl⟩
    obtain⟨r',hr'⟩:∃r',Hid (rs'[k]=r'):=⟨_,hide rfl⟩
    have hok:r.ok:=by rw[←hr.out];exact hall _ (List.getElem_mem hlt)
    have hok':r'.ok:=by rw[←hr'.out];exact hall' _ (List.getElem_mem hlt')
    rw[hr.out]at hre
    rw[hr'.out]at hre'
    have HM':Hid (r=r'→∀j (hj:j<rs.length) (hj':j<rs'.length),j<k+1→rs[j]=rs'[j]):=hide (fun hp j hj hj' hjk=>by
     by_cases e:j=k
     ·subst e;rw[hr.out,hr'.out];exact hp
     ·exact HM.out j hj hj' (by omega))
    have HN':Hid (r≠r'→rs≠rs'):=hide (fun hp he=>by
     apply hp
     rw[←hr.out,←hr'.out]
     subst he
     rfl)
    clear hr hr' HM
    have hiu:(prog.info? 25).map (·.size)=some r.cells.length:=by rw[show r.cells.length=18 from EvE.len r hok];kernel_rfl
    have hiu':(prog.info? 25).map (·.size)=some r'.cells.length:=by rw[show r'.cells.length=18 from EvE.len r' hok'];kernel_rfl
    have hne:=fun w0=>Ev.eq10 r r' hok hok' w0
    obtain⟨u,hu⟩:∃u,Hid (r.cells=u):=⟨_,hide rfl⟩
    obtain⟨u',hu'⟩:∃u',Hid (r'.cells=u'):=⟨_,hide rfl⟩
    rw[hu.out]at hre hiu
    rw[hu'.out]at hre' hiu'
    simp only[hu.out,hu'.out]at hne
    clear hu hu' hok hok'
    by_cases hrr:r=r'
    ·have e1:Ev.B r r'=true:=Ev.B_iff.2 hrr
     rw[e1]at hne
     have HR:=hide hrr
     clear hrr e1
     go_upto_region 6 with fail
     obtain⟨w5,hw5⟩:∃w5,wr.drew=w5:=⟨_,rfl⟩
     have hB5:Below w.heap.size w w5:=by rw[←hw5];exact hB.drew
     have hre5:w5.rangeAt b (off+k*18) u:=by rw[←hw5];exact(World.rangeAt_drew _ _ _ _).2 hre
     have hre5':w5.rangeAt b' (off'+k*18) u':=by rw[←hw5];exact(World.rangeAt_drew _ _ _ _).2 hre'
     have hb5:b<w5.heap.size:=by rw[←hw5];exact hb
     have hb5':b'<w5.heap.size:=by rw[←hw5];exact hb'
     refine zw (S:=(Below w5.heap.size w5)) 9 rfl (by kernel_rfl) ?_
     rw[hw5]
     clear hw5 hB hre hre' hb hb'
     have hS:(Below w5.heap.size w5) w5:=Below.refl _ _
     refine hs_a 0 16 hS ?_
     refine hs_a 1 17 hS ?_
     refine hs_a 2 18 hS ?_
     refine hs_v 3 19 (.agg u.toArray) rfl (fun w' hw=>zu rfl rfl (run_loadVar_mid (P:=prog) w' b (off+k*18) 25 u _ (za hre5 hw hb5) underlying25 rfl hiu)) hS ?_
     refine hs_a 4 20 hS ?_
     refine hs_a 5 21 hS ?_
     refine hs_a 6 22 hS ?_
     refine hs_v 7 23 (.agg u'.toArray) rfl (fun w' hw=>zu rfl rfl (run_loadVar_mid (P:=prog) w' b' (off'+k*18) 25 u' _ (za hre5' hw hb5') underlying25 rfl hiu')) hS ?_
     refine hs_v 8 24 (.bool false) rfl (fun w' hw=>by have hc:=hne w';go_simp) hS ?_
     refine zv (by kernel_rfl) ?_
     go_wp2
     go_roundw
     case rel=>exact⟨k+1,by omega,by go_num,hide (HM'.out HR.out),hB5⟩
     case measure=>simp[intOf];omega
    ·have e1:Ev.B r r'=false:=by
      cases hx:Ev.B r r'
      ·rfl
      ·exact absurd (Ev.B_iff.1 hx) hrr
     rw[e1]at hne
     have HR:=hide hrr
     clear hrr e1
     go_upto_region 6 with fail
     obtain⟨w5,hw5⟩:∃w5,wr.drew=w5:=⟨_,rfl⟩
     have hB5:Below w.heap.size w w5:=by rw[←hw5];exact hB.drew
     have hre5:w5.rangeAt b (off+k*18) u:=by rw[←hw5];exact(World.rangeAt_drew _ _ _ _).2 hre
     have hre5':w5.rangeAt b' (off'+k*18) u':=by rw[←hw5];exact(World.rangeAt_drew _ _ _ _).2 hre'
     have hb5:b<w5.heap.size:=by rw[←hw5];exact hb
     have hb5':b'<w5.heap.size:=by rw[←hw5];exact hb'
     refine zw (S:=(Below w5.heap.size w5)) 9 rfl (by kernel_rfl) ?_
     rw[hw5]
     clear hw5 hB hre hre' hb hb'
     have hS:(Below w5.heap.size w5) w5:=Below.refl _ _
     refine hs_a 0 16 hS ?_
     refine hs_a 1 17 hS ?_
     refine hs_a 2 18 hS ?_
     refine hs_v 3 19 (.agg u.toArray) rfl (fun w' hw=>zu rfl rfl (run_loadVar_mid (P:=prog) w' b (off+k*18) 25 u _ (za hre5 hw hb5) underlying25 rfl hiu)) hS ?_
     refine hs_a 4 20 hS ?_
     refine hs_a 5 21 hS ?_
     refine hs_a 6 22 hS ?_
     refine hs_v 7 23 (.agg u'.toArray) rfl (fun w' hw=>zu rfl rfl (run_loadVar_mid (P:=prog) w' b' (off'+k*18) 25 u' _ (za hre5' hw hb5') underlying25 rfl hiu')) hS ?_
     refine hs_v 8 24 (.bool true) rfl (fun w' hw=>by have hc:=hne w';go_simp) hS ?_
     refine zv (by kernel_rfl) ?_
     go_wp2
     go_ret
     exact⟨.inr ⟨rfl,fun hh=>HN'.out HR.out hh⟩,hB5⟩
   ·have k1:¬(k:Int)<rs.length:=by omega
    have HE:Hid (rs=rs'):=hide (List.ext_getElem HL.out (fun j hj hj'=>HM.out j hj hj' (by omega)))
    clear HM
    go_wp2
    go_ret
    exact⟨.inl ⟨rfl,HE.out⟩,hB⟩
theorem zma (a:Option Addr) (cap:Nat) (rs:List Ev) (a':Option Addr) (cap':Nat) (rs':List Ev) (w:World) (h:RowsAt EvE w a rs) (h':RowsAt EvE w a' rs'):
  Calls prog 132 #[.slice a rs.length cap,.slice a' rs'.length cap'] w fun e w'=>e=.returned (.bool (sameL Ev.B rs rs'))∧Below w.heap.size w w':=by
 refine(zmb a cap rs a' cap' rs' w h h').mono ?_
 rintro e w1 ⟨hc,hb⟩
 have I:=zay (fun x y=>Ev.B_iff (x:=x) (y:=y)) rs rs'
 refine⟨?_,hb⟩
 rcases hc with⟨rfl,he⟩|⟨rfl,he⟩
 ·rw[I.2 he]
 ·cases hq:sameL Ev.B rs rs'
  ·rfl
  ·exact absurd (I.1 hq) he
theorem zl9 (a:Option Addr) (cap:Nat) (rs:List Rq) (a':Option Addr) (cap':Nat) (rs':List Rq) (w:World) (h:RowsAt RqE w a rs) (h':RowsAt RqE w a' rs'):
  Calls prog 162 #[.slice a rs.length cap,.slice a' rs'.length cap'] w fun e w'=>((e=.returned (.bool true)∧rs=rs')∨(e=.returned (.bool false)∧¬rs=rs'))∧Below w.heap.size w w':=by
 have hml:=h.1
 have hml':=h'.1
 unfold maxLen at hml hml'
 have hall:=h.2.1
 have hall':=h'.2.1
 by_cases hlen:rs.length=rs'.length
 rotate_left
 ·have e0:((rs.length:Int)==rs'.length)=false:=by simp;omega
  have HL:=hide hlen
  clear hlen
  go_enter func162,ntmps162
  go_wp2
  go_ret
  exact⟨.inr ⟨rfl,fun hh=>HL.out (by rw[hh])⟩,Below.refl _ _⟩
 ·have e0:((rs.length:Int)==rs'.length)=true:=by simp;omega
  have HL:=hide hlen
  clear hlen
  go_enter func162,ntmps162
  go_wp2
  go_loopw [13] (fun iv wr=>∃k:Nat,k≤rs.length∧iv=.int .i64 (k:Int)∧Hid (∀j (hj:j<rs.length) (hj':j<rs'.length),j<k→rs[j]=rs'[j])∧Below w.heap.size w wr) (fun iv _=>rs.length - (intOf iv).toNat)
  case atStart=>exact⟨0,by omega,rfl,hide (fun j _ _ hj=>absurd hj (by omega)),Below.refl _ _⟩
  case round=>
   clear e0
   obtain⟨k,hk,rfl,HM,hB⟩:=hrel
   by_cases hlt:k<rs.length
   ·have k1:(k:Int)<rs.length:=by omega
    have hlt':k<rs'.length:=by have:=HL.out;omega
    have k1':(k:Int)<rs'.length:=by omega
    obtain⟨b,off,rfl,hb,hre⟩:=(h.below hB).elem k hlt
    have hre:wr.rangeAt b (off+k*19) rs[k].cells:=hre
    obtain⟨b',off',rfl,hb',hre'⟩:=(h'.below hB).elem k hlt'
    have hre':wr.rangeAt b' (off'+k*19) rs'[k].cells:=hre'
    obtain⟨r,hr⟩:∃r,Hid (rs[k]=r):=⟨_,hide rfl⟩
    obtain⟨r',hr'⟩:∃r',Hid (rs'[k]=r'):=⟨_,hide rfl⟩
    have hok:r.ok:=by rw[←hr.out];exact hall _ (List.getElem_mem hlt)
    have hok':r'.ok:=by rw[←hr'.out];exact hall' _ (List.getElem_mem hlt')
    rw[hr.out]at hre
    rw[hr'.out]at hre'
    have HM':Hid (r=r'→∀j (hj:j<rs.length) (hj':j<rs'.length),j<k+1→rs[j]=rs'[j]):=hide (fun hp j hj hj' hjk=>by
     by_cases e:j=k
     ·subst e;rw[hr.out,hr'.out];exact hp
     ·exact HM.out j hj hj' (by omega))
    have HN':Hid (r≠r'→rs≠rs'):=hide (fun hp he=>by
     apply hp
     rw[←hr.out,←hr'.out]
     subst he
     rfl)
    clear hr hr' HM
    have hiu:(prog.info? 81).map (·.size)=some r.cells.length:=by rw[show r.cells.length=19 from RqE.len r hok];kernel_rfl
    have hiu':(prog.info? 81).map (·.size)=some r'.cells.length:=by rw[show r'.cells.length=19 from RqE.len r' hok'];kernel_rfl
    have hne:=fun w0=>Rq.eq10 r r' hok hok' w0
    obtain⟨u,hu⟩:∃u,Hid (r.cells=u):=⟨_,hide rfl⟩
    obtain⟨u',hu'⟩:∃u',Hid (r'.cells=u'):=⟨_,hide rfl⟩
    rw[hu.out]at hre hiu
    rw[hu'.out]at hre' hiu'
    simp only[hu.out,hu'.out]at hne
    clear hu hu' hok hok'
    by_cases hrr:r=r'
    ·have e1:Rq.B r r'=true:=Rq.B_iff.2 hrr
     rw[e1]at hne
     have HR:=hide hrr
     clear hrr e1
     go_upto_region 6 with fail
     obtain⟨w5,hw5⟩:∃w5,wr.drew=w5:=⟨_,rfl⟩
     have hB5:Below w.heap.size w w5:=by rw[←hw5];exact hB.drew
     have hre5:w5.rangeAt b (off+k*19) u:=by rw[←hw5];exact(World.rangeAt_drew _ _ _ _).2 hre
     have hre5':w5.rangeAt b' (off'+k*19) u':=by rw[←hw5];exact(World.rangeAt_drew _ _ _ _).2 hre'
     have hb5:b<w5.heap.size:=by rw[←hw5];exact hb
     have hb5':b'<w5.heap.size:=by rw[←hw5];exact hb'
     refine zw (S:=(Below w5.heap.size w5)) 9 rfl (by kernel_rfl) ?_
     rw[hw5]
     clear hw5 hB hre hre' hb hb'
     have hS:(Below w5.heap.size w5) w5:=Below.refl _ _
     refine hs_a 0 16 hS ?_
     refine hs_a 1 17 hS ?_
     refine hs_a 2 18 hS ?_
     refine hs_v 3 19 (.agg u.toArray) rfl (fun w' hw=>zu rfl rfl (run_loadVar_mid (P:=prog) w' b (off+k*19) 81 u _ (za hre5 hw hb5) underlying81 rfl hiu)) hS ?_
     refine hs_a 4 20 hS ?_
     refine hs_a 5 21 hS ?_
     refine hs_a 6 22 hS ?_
     refine hs_v 7 23 (.agg u'.toArray) rfl (fun w' hw=>zu rfl rfl (run_loadVar_mid (P:=prog) w' b' (off'+k*19) 81 u' _ (za hre5' hw hb5') underlying81 rfl hiu')) hS ?_
     refine hs_v 8 24 (.bool false) rfl (fun w' hw=>by have hc:=hne w';go_simp) hS ?_
     refine zv (by kernel_rfl) ?_
     go_wp2
     go_roundw
     case rel=>exact⟨k+1,by omega,by go_num,hide (HM'.out HR.out),hB5⟩
     case measure=>simp[intOf];omega
    ·have e1:Rq.B r r'=false:=by
      cases hx:Rq.B r r'
      ·rfl
      ·exact absurd (Rq.B_iff.1 hx) hrr
     rw[e1]at hne
     have HR:=hide hrr
     clear hrr e1
     go_upto_region 6 with fail
     obtain⟨w5,hw5⟩:∃w5,wr.drew=w5:=⟨_,rfl⟩
     have hB5:Below w.heap.size w w5:=by rw[←hw5];exact hB.drew
     have hre5:w5.rangeAt b (off+k*19) u:=by rw[←hw5];exact(World.rangeAt_drew _ _ _ _).2 hre
     have hre5':w5.rangeAt b' (off'+k*19) u':=by rw[←hw5];exact(World.rangeAt_drew _ _ _ _).2 hre'
     have hb5:b<w5.heap.size:=by rw[←hw5];exact hb
     have hb5':b'<w5.heap.size:=by rw[←hw5];exact hb'
     refine zw (S:=(Below w5.heap.size w5)) 9 rfl (by kernel_rfl) ?_
     rw[hw5]
     clear hw5 hB hre hre' hb hb'
     have hS:(Below w5.heap.size w5) w5:=Below.refl _ _
     refine hs_a 0 16 hS ?_
     refine hs_a 1 17 hS ?_
     refine hs_a 2 18 hS ?_
     refine hs_v 3 19 (.agg u.toArray) rfl (fun w' hw=>zu rfl rfl (run_loadVar_mid (P:=prog) w' b (off+k*19) 81 u _ (za hre5 hw hb5) underlying81 rfl hiu)) hS ?_
     refine hs_a 4 20 hS ?_
     refine hs_a 5 21 hS ?_
     refine hs_a 6 22 hS ?_
     refine hs_v 7 23 (.agg u'.toArray) rfl (fun w' hw=>zu rfl rfl (run_loadVar_mid (P:=prog) w' b' (off'+k*19) 81 u' _ (za hre5' hw hb5') underlying81 rfl hiu')) hS ?_
     refine hs_v 8 24 (.bool true) rfl (fun w' hw=>by have hc:=hne w';go_simp) hS ?_
     refine zv (by kernel_rfl) ?_
     go_wp2
     go_ret
     exact⟨.inr ⟨rfl,fun hh=>HN'.out HR.out hh⟩,hB5⟩
   ·have k1:¬(k:Int)<rs.length:=by omega
    have HE:Hid (rs=rs'):=hide (List.ext_getElem HL.out (fun j hj hj'=>HM.out j hj hj' (by omega)))
    clear HM
    go_wp2
    go_ret
    exact⟨.inl ⟨rfl,HE.out⟩,hB⟩
theorem zl8 (a:Option Addr) (cap:Nat) (rs:List Rq) (a':Option Addr) (cap':Nat) (rs':List Rq) (w:World) (h:RowsAt RqE w a rs) (h':RowsAt RqE w a' rs'):
  Calls prog 162 #[.slice a rs.length cap,.slice a' rs'.length cap'] w fun e w'=>e=.returned (.bool (sameL Rq.B rs rs'))∧Below w.heap.size w w':=by
 refine(zl9 a cap rs a' cap' rs' w h h').mono ?_
 rintro e w1 ⟨hc,hb⟩
 have I:=zay (fun x y=>Rq.B_iff (x:=x) (y:=y)) rs rs'
 refine⟨?_,hb⟩
 rcases hc with⟨rfl,he⟩|⟨rfl,he⟩
 ·rw[I.2 he]
 ·cases hq:sameL Rq.B rs rs'
  ·rfl
  ·exact absurd (I.1 hq) he
theorem zbN (q q':List Value) (t:TypeId) (w:World):((w.alloc (.cells q.toArray t)).alloc (.cells q'.toArray t)).rangeAt w.heap.size 0 q∧((w.alloc (.cells q.toArray t)).alloc (.cells q'.toArray t)).rangeAt (w.heap.size+1) 0 q'∧Below w.heap.size w ((w.alloc (.cells q.toArray t)).alloc (.cells q'.toArray t))∧w.heap.size+2≤((w.alloc (.cells q.toArray t)).alloc (.cells q'.toArray t)).heap.size:=by
 have hB:Below w.heap.size w (w.alloc (.cells q.toArray t)):=(Below.refl _ _).alloc (Nat.le_refl _) _
 have hB2:Below (w.alloc (.cells q.toArray t)).heap.size (w.alloc (.cells q.toArray t)) ((w.alloc (.cells q.toArray t)).alloc (.cells q'.toArray t)):=(Below.refl _ _).alloc (Nat.le_refl _) _
 have h1:=zC w q.toArray t
 have h2:=zC (w.alloc (.cells q.toArray t)) q'.toArray t
 rw[World.size_alloc]at h2
 exact⟨za (by simpa using h1) hB2 (by simp),by simpa using h2,hB.trans (hB2.mono (by simp)),by simp⟩
structure Sl (α:Type) where
 a:Option Addr
 cap:Nat
 xs:List α
instance {α:Type}:Inhabited (Sl α):=⟨⟨none,0,[]⟩⟩
def Sl.val {α:Type} (x:Sl α):Value:=.slice x.a x.xs.length x.cap
def Sl.At {α:Type} (E:El α) (w:World) (x:Sl α):Prop:=RowsAt E w x.a x.xs
theorem Sl.At.below {α:Type} {E:El α} {w w':World} {x:Sl α} (h:x.At E w) (hb:Below w.heap.size w w'):x.At E w':=RowsAt.below h hb
def batB (q:Bool) (x:Sl Rq) (q':Bool) (x':Sl Rq):Bool:=(q==q')&&sameL Rq.B x.xs x'.xs
theorem zhJ (q:Bool) (x:Sl Rq) (q':Bool) (x':Sl Rq) (w:World) (h:x.At RqE w) (h':x'.At RqE w):
  Calls prog 130 #[.agg #[.bool q,x.val],.agg #[.bool q',x'.val]] w fun e w'=>e=.returned (.bool (batB q x q' x'))∧Below w.heap.size w w':=by
 obtain⟨a,cap,rs⟩:=x
 obtain⟨a',cap',rs'⟩:=x'
 have ce:=fun w0 h0 h1=>zl8 a cap rs a' cap' rs' w0 h0 h1
 have hB:Below w.heap.size w ((w.alloc (.cells #[.bool q,.slice a rs.length cap] 39)).alloc (.cells #[.bool q',.slice a' rs'.length cap'] 39)):=((Below.refl _ w).alloc (Nat.le_refl _) _).alloc (by simp) _
 have h1:RowsAt RqE _ a rs:=RowsAt.below h hB
 have h1':RowsAt RqE _ a' rs':=RowsAt.below h' hB
 have E:batB q ⟨a,cap,rs⟩ q' ⟨a',cap',rs'⟩=((q==q')&&sameL Rq.B rs rs'):=rfl
 rw[E]
 clear E h h'
 simp only[Sl.val]
 generalize sameL Rq.B rs rs'=sb at *
 cases q<;>cases q'
 case false.true|true.false=>
  clear ce
  go_enter func130,ntmps130
  go_wp2
  go_ret
  exact⟨rfl,hB⟩
 all_goals
  cases sb
  all_goals
   go_enter func130,ntmps130
   go_wp2_with fail
   refine(ce _ h1 h1').mono ?_
   rintro e w2 ⟨rfl,hb2⟩
   have hB2:=hB.trans (hb2.mono hB.size)
   clear ce h1 h1' hb2
   go_wp2
   go_ret
   exact⟨rfl,hB2⟩
def certL (x:Vt) (s:Sl Sg):List Value:=x.cells++[s.val]
def certB (x:Vt) (s:Sl Sg) (y:Vt) (t:Sl Sg):Bool:=vtB x y&&sameL Sg.B s.xs t.xs
theorem zfE (x y:Vt) (s t:Sl Sg) (w:World) (hx:x.ok) (hy:y.ok) (hs:s.At SgE w) (ht:t.At SgE w):Calls prog 133 #[.agg (certL x s).toArray,.agg (certL y t).toArray] w fun e w'=>e=.returned (.bool (certB x s y t))∧Below w.heap.size w w':=by
 obtain⟨hA,hA',hB,hz⟩:=zbN (certL x s) (certL y t) 50 w
 have r1:=zI hA
 have r1':=zI hA'
 have c1:=zO hA 0 _ rfl
 have c1':=zO hA' 0 _ rfl
 rw[hx.len]at c1
 rw[hy.len]at c1'
 simp only[Nat.zero_add,Nat.add_zero]at c1 c1'
 have ix:(prog.info? 43).map (·.size)=some x.cells.length:=by rw[hx.len];exact iszV
 have iy:(prog.info? 43).map (·.size)=some y.cells.length:=by rw[hy.len];exact iszV
 have hq:=eqInV x y hx.dl hy.dl
 obtain⟨a,cap,rs⟩:=s
 obtain⟨a',cap',rs'⟩:=t
 have ce:=fun w0 h0 h1=>zhj a cap rs a' cap' rs' w0 h0 h1
 have h1:RowsAt SgE _ a rs:=RowsAt.below hs hB
 have h1':RowsAt SgE _ a' rs':=RowsAt.below ht hB
 have E:certB x ⟨a,cap,rs⟩ y ⟨a',cap',rs'⟩=(vtB x y&&sameL Sg.B rs rs'):=rfl
 rw[E]
 simp only[Sl.val]at c1 c1'
 clear hA hA' hz hx hy E hs ht
 generalize certL x ⟨a,cap,rs⟩=q at *
 generalize certL y ⟨a',cap',rs'⟩=q' at *
 generalize x.cells=u at *
 generalize y.cells=u' at *
 generalize vtB x y=vb at *
 generalize sameL Sg.B rs rs'=sb at *
 cases vb
 ·go_enter func133,ntmps133
  go_upto_region 1 with fail
  go_name_world w1 hw1
  rw[show(w.alloc (.cells q.toArray 50)).alloc (.cells q'.toArray 50)=w1 from hw1]at r1 r1' c1 c1' hB h1 h1'
  clear hw1 ce
  go_wp2_with (first|(refine wpList_load_mid rfl 43 _ rfl _ _ rfl u _ r1 underlying43 rfl ix ?_)|(refine wpList_load_mid rfl 43 _ rfl _ _ rfl u' _ r1' underlying43 rfl iy ?_))
  go_ret
  exact⟨rfl,hB⟩
 ·cases sb
  all_goals
   go_enter func133,ntmps133
   go_upto_region 1 with fail
   go_name_world w1 hw1
   rw[show(w.alloc (.cells q.toArray 50)).alloc (.cells q'.toArray 50)=w1 from hw1]at r1 r1' c1 c1' hB h1 h1'
   clear hw1
   go_wp2_with (first|(refine wpList_load_mid rfl 43 _ rfl _ _ rfl u _ r1 underlying43 rfl ix ?_)|(refine wpList_load_mid rfl 43 _ rfl _ _ rfl u' _ r1' underlying43 rfl iy ?_))
   refine(ce _ h1 h1').mono ?_
   rintro e2 w2 ⟨rfl,hb2⟩
   have hB2:=hB.trans (hb2.mono hB.size)
   clear ce h1 h1' hb2 c1 c1' r1 r1'
   go_wp2
   go_ret
   exact⟨rfl,hB2⟩
structure Hd where
 q:Bool
 rs:Sl Rq
 vt:Vt
 sg:Sl Sg
instance:Inhabited Hd:=⟨⟨false,default,Vt.zero,default⟩⟩
def Hd.cells (h:Hd):List Value:=.bool h.q::h.rs.val::certL h.vt h.sg
def HdE:El Hd where
 f:=Hd.cells
 k:=39
 ok:=fun h=>h.vt.ok
 len:=fun h hv=>by have:=hv.len;simp[Hd.cells,certL];omega
 one:=fun h v hv=>by
  simp only[Hd.cells,certL,List.mem_cons,List.mem_append,List.not_mem_nil,or_false]at hv
  rcases hv with rfl|rfl|hv|rfl
  ·rfl
  ·rfl
  ·exact Vt.one _ v hv
  ·rfl
def Hd.At (w:World) (h:Hd):Prop:=h.rs.At RqE w∧h.sg.At SgE w
theorem Hd.At.below {w w':World} {h:Hd} (k:h.At w) (hb:Below w.heap.size w w'):h.At w':=⟨k.1.below hb,k.2.below hb⟩
def Hd.B (h g:Hd):Bool:=batB h.q h.rs g.q g.rs&&certB h.vt h.sg g.vt g.sg
theorem iszH:(prog.info? 113).map (·.size)=some 39:=by kernel_rfl
theorem zi7 (h g:Hd) (w:World) (kh:h.vt.ok) (kg:g.vt.ok) (ah:h.At w) (ag:g.At w):Calls prog 164 #[.agg h.cells.toArray,.agg g.cells.toArray] w fun e w'=>e=.returned (.bool (Hd.B h g))∧Below w.heap.size w w':=by
 obtain⟨hA,hA',hB,hz⟩:=zbN h.cells g.cells 113 w
 have c0:=hA 0 _ rfl
 have c1:=hA 1 _ rfl
 have c0':=hA' 0 _ rfl
 have c1':=hA' 1 _ rfl
 simp only[Nat.zero_add,Nat.add_zero]at c0 c1 c0' c1'
 have rc:World.rangeAt _ w.heap.size 2 (certL h.vt h.sg):=zO (cs:=[.bool h.q,h.rs.val]) hA
 have rc':World.rangeAt _ (w.heap.size+1) 2 (certL g.vt g.sg):=zO (cs:=[.bool g.q,g.rs.val]) hA'
 have ic:(prog.info? 50).map (·.size)=some (certL h.vt h.sg).length:=by rw[show(certL h.vt h.sg).length=37 by simp[certL,kh.len]];exact iszC
 have ic':(prog.info? 50).map (·.size)=some (certL g.vt g.sg).length:=by rw[show(certL g.vt g.sg).length=37 by simp[certL,kg.len]];exact iszC
 have h1:=ah.below hB
 have g1:=ag.below hB
 have cb:=fun w0 k1 k2=>zhJ h.q h.rs g.q g.rs w0 k1 k2
 have cc:=fun w0 k1 k2=>zfE h.vt g.vt h.sg g.sg w0 kh kg k1 k2
 unfold Hd.B
 obtain⟨W,hW⟩:∃W,Hid ((w.alloc (.cells h.cells.toArray 113)).alloc (.cells g.cells.toArray 113)=W):=⟨_,hide rfl⟩
 rw[hW.out]at c0 c1 c0' c1' rc rc' hB hz h1 g1
 generalize h.cells=q at *
 generalize g.cells=q' at *
 generalize certL h.vt h.sg=u at *
 generalize certL g.vt g.sg=u' at *
 generalize batB h.q h.rs g.q g.rs=b1 at *
 generalize certB h.vt h.sg g.vt g.sg=b2 at *
 obtain⟨hrq,hrs⟩:=h1
 obtain⟨grq,grs⟩:=g1
 have B1:=cb W hrq grq
 obtain⟨_,⟨a,cap,rs⟩,_,sg⟩:=h
 obtain⟨_,⟨a',cap',rs'⟩,_,sg'⟩:=g
 simp only[Sl.val]at c1 c1' B1
 clear hA hA' kh kg ah ag cb hrq grq
 cases b1
 ·go_enter func164,ntmps164
  go_upto_region 1 with fail
  go_name_world w1 hw1
  obtain rfl:W=w1:=hW.out.symm.trans hw1
  clear hw1 hW cc
  go_wp2_with fail
  refine B1.mono ?_
  rintro e2 w2 ⟨rfl,hb2⟩
  have hB2:=hB.trans (hb2.mono (by omega))
  clear B1 c0 c1 c0' c1' rc rc' hb2
  go_wp2
  go_ret
  exact⟨rfl,hB2⟩
 ·cases b2
  all_goals
   go_enter func164,ntmps164
   go_upto_region 1 with fail
   go_name_world w1 hw1
   obtain rfl:W=w1:=hW.out.symm.trans hw1
   clear hw1 hW
   go_wp2_with fail
   refine B1.mono ?_
   rintro e2 w2 ⟨rfl,hb2⟩
   have hB2:=hB.trans (hb2.mono (by omega))
   have C2:=cc w2 (hrs.below hb2) (grs.below hb2)
   have rc2:=za rc hb2 (by omega)
   have rc2':=za rc' hb2 (by omega)
   clear B1 c0 c1 c0' c1' rc rc' hb2 cc hrs grs
   go_wp2_with (first|(refine zM (by rfl) 50 _ rfl _ _ rfl u _ rc2 underlying50 rfl ic ?_)|(refine zM (by rfl) 50 _ rfl _ _ rfl u' _ rc2' underlying50 rfl ic' ?_))
   refine C2.mono ?_
   rintro e3 w3 ⟨rfl,hb3⟩
   have hB3:=hB2.trans (hb3.mono hB2.size)
   clear C2 rc2 rc2' hb3
   go_wp2
   go_ret
   exact⟨rfl,hB3⟩
set_option linter.unusedVariables false
set_option linter.unusedSimpArgs false
def reqL (c n:Int) (s:ByteArray) (t:List Int):List Value:=.int .i64 c::.int .i64 n::.string s::v8 t
theorem zcS (w:World) (c n:Int) (s:ByteArray) (t:List Int):(w.alloc (.cells (reqL c n s t).toArray 81)).rangeAt w.heap.size 0 (reqL c n s t):=by
 have:=zC w (reqL c n s t).toArray 81
 simpa using this
theorem zbS {w:World} {b:Nat} {c n:Int} {s:ByteArray} {t:List Int} (h:w.rangeAt b 0 (reqL c n s t)):w.cell? ⟨b,0,none⟩=some (.int .i64 c)∧w.cell? ⟨b,1,none⟩=some (.int .i64 n)∧w.cell? ⟨b,2,none⟩=some (.string s):=
 ⟨h 0 _ rfl,h 1 _ rfl,h 2 _ rfl⟩
theorem zg8 (a:Option Addr) (cap:Nat) (zs:List Int) (c n:Int) (s:ByteArray) (t:List Int) (w:World) (h:RowAt w a zs) (hm:zs.length≤1000000) (hc:c≤9223372036854775807) (hn:n≤9223372036854775807) (hs:s.size≤1000000):
   Calls prog 149 #[.slice a zs.length cap,.agg (reqL c n s t).toArray] w fun e w'=>∃v,e=.returned v∧Mine w' w.heap.size v (zs++putL c++putL n++textL s)∧Below w.heap.size w w':=by
  have hB1:Below w.heap.size w (w.alloc (.cells (reqL c n s t).toArray 81)):=(Below.refl _ _).alloc (Nat.le_refl _) _
  have hR1:=zcS w c n s t
  have hz1:w.heap.size<(w.alloc (.cells (reqL c n s t).toArray 81)).heap.size:=by simp
  have hlc:=zab c (by omega)
  have hln:=zab n (by omega)
  obtain⟨q,hq⟩:∃q,Hid (reqL c n s t=q):=⟨_,rfl⟩
  rw[hq.out]at hB1 hz1 ⊢
  rw[hq.out]at hR1
  obtain⟨z1,hz1'⟩:∃z1,Hid (zs++putL c=z1):=⟨_,rfl⟩
  obtain⟨z2,hz2'⟩:∃z2,Hid (z1++putL n=z2):=⟨_,rfl⟩
  have l1:z1.length≤1000009:=by rw[←hz1'.out,List.length_append];omega
  have l2:z2.length≤1000018:=by rw[←hz2'.out,List.length_append];omega
  rw[hz1'.out,hz2'.out]
  clear hlc hln
  go_enter func149,ntmps149
  go_wp2_with fail
  go_name_world w1 hw1
  rw[show w.alloc (.cells q.toArray 81)=w1 from hw1]at hB1 hR1 hz1
  clear hw1
  have hB4:=hB1.drew
  have hR4:w1.drew.rangeAt w.heap.size 0 q:=(World.rangeAt_drew _ _ _ _).2 hR1
  have hz4:w.heap.size<w1.drew.heap.size:=hz1
  have h4:=h.below hB4
  clear hB1 hR1 hz1
  obtain⟨X,hX⟩:∃X,Hid (w.heap.size=X):=⟨_,rfl⟩
  rw[hX.out]at hR4 hz4 ⊢
  obtain⟨w5,hw5⟩:∃w5,w1.drew=w5:=⟨_,rfl⟩
  rw[hw5]at hB4 hR4 hz4 h4
  have cells:∀w',Below w5.heap.size w5 w'→w'.cell? ⟨X,0,none⟩=some (.int .i64 c)∧w'.cell? ⟨X,1,none⟩=some (.int .i64 n)∧w'.cell? ⟨X,2,none⟩=some (.string s):=fun w' hw'=>by
    have:=za hR4 hw' hz4
    rw[←hq.out]at this
    exact zbS this
  refine zw (S:=(Below w5.heap.size w5)) 11 rfl (by kernel_rfl) ?_
  rw[hw5]
  clear hw5 hR4
  have hS:(Below w5.heap.size w5) w5:=Below.refl _ _
  refine hs_a 0 5 hS ?_
  refine hs_a 1 6 hS ?_
  refine hs_t 2 7 (?_) rfl (by kernel_rfl) (by kernel_rfl) (by kernel_rfl) (by rfl) ?_ hS rfl ?_
  rotate_left
  · intro w' hw
    have hc:=(cells w' hw).1
    go_simp
    try with_reducible rfl
  simp only[nz]
  refine hs_a 4 9 hS ?_
  refine hs_t 5 10 (?_) rfl (by kernel_rfl) (by kernel_rfl) (by kernel_rfl) (by rfl) ?_ hS rfl ?_
  rotate_left
  · intro w' hw
    have hc:=(cells w' hw).2.1
    go_simp
    try with_reducible rfl
  simp only[nz]
  refine hs_a 7 12 hS ?_
  refine hs_t 8 13 (?_) rfl (by kernel_rfl) (by kernel_rfl) (by kernel_rfl) (by rfl) ?_ hS rfl ?_
  rotate_left
  · intro w' hw
    have hc:=(cells w' hw).2.2
    go_simp
    try with_reducible rfl
  simp only[nz]
  clear cells
  have c6:=zbx a cap zs c w5 h4 (by omega) hc
  rw[hz1'.out]at c6
  refine hs_c 3 8 ?_
  refine(c6).mono ?_
  rintro e' w6 ⟨v6,rfl,hM6,hw6⟩
  have hS:(Below w5.heap.size w5) w6:=hS.trans (hw6.mono hS.size)
  refine⟨_,rfl,hS,?_⟩
  simp only[nz]
  obtain⟨a6,cap6,rfl,_,_,hrow6⟩:=hM6.rowAt (by unfold maxLen;omega)
  clear c6 hM6 hw6
  have c7:=zbx a6 cap6 z1 n w6 hrow6 (by omega) hn
  rw[hz2'.out]at c7
  refine hs_c 6 11 ?_
  refine(c7).mono ?_
  rintro e' w7 ⟨v7,rfl,hM7,hw7⟩
  have hS:(Below w5.heap.size w5) w7:=hS.trans (hw7.mono hS.size)
  refine⟨_,rfl,hS,?_⟩
  simp only[nz]
  obtain⟨a7,cap7,rfl,_,_,hrow7⟩:=hM7.rowAt (by unfold maxLen;omega)
  have hs7:w5.heap.size≤w7.heap.size:=hS.size
  clear c7 hM7 hw7 hrow6
  have c8:=zd1 a7 cap7 z2 s w7 hrow7 (by omega) (by omega)
  refine hs_c 9 14 ?_
  refine(c8).mono ?_
  rintro e' w8 ⟨v8,rfl,hM8,hw8⟩
  have hS:(Below w5.heap.size w5) w8:=hS.trans (hw8.mono hS.size)
  refine⟨_,rfl,hS,?_⟩
  simp only[nz]
  have hfin:=hB4.trans (hS.mono hB4.size)
  have hM9:Mine w8 w.heap.size v8 (z2++textL s):=⟨zcj hM8.1 (by have:=hB4.size;omega),hM8.2⟩
  clear c8 hM8 hw8 hrow7
  refine hs_a 10 4 hS ?_
  refine zv (by kernel_rfl) ?_
  go_wp2
  go_ret
  exact⟨_,rfl,hM9,hfin⟩
theorem za2 (c n:Int) (s:ByteArray) (t:List Int) (ht:t.length=16):(reqL c n s t).length=19:=by simp[reqL,v8_length,ht]
theorem iszR:(prog.info? 81).map (·.size)=some 19:=by kernel_rfl
theorem zcc (c n:Int) (s:ByteArray) (t:List Int):∀v∈reqL c n s t,v.oneCell'=true:=by
 intro v hv
 simp only[reqL,List.mem_cons]at hv
 rcases hv with rfl|rfl|rfl|hv
 ·rfl
 ·rfl
 ·rfl
 ·exact zy t v hv
theorem zjS {w:World} {b:Nat} {c n:Int} {s:ByteArray} {t:List Int} (h:w.rangeAt b 0 (reqL c n s t)):w.rangeAt b 3 (v8 t):=by
 have e:reqL c n s t=[.int .i64 c,.int .i64 n,.string s]++v8 t:=rfl
 rw[e]at h
 exact zO h
theorem zju (a:Option Addr) (cap:Nat) (zs:List Int) (c n:Int) (s:ByteArray) (t:List Int) (w:World) (h:RowAt w a zs) (hz:zs.length≤1000000) (ht:t.length=16) (htb:∀z∈t,0≤z∧z<256) (hc:c≤9223372036854775807) (hn:n≤9223372036854775807) (hs:s.size≤1000000):
   Calls prog 179 #[.slice a zs.length cap,.agg (reqL c n s t).toArray] w fun e w'=>∃v,e=.returned v∧Mine w' w.heap.size v (zs++(putL c++putL n++textL s)++t)∧Below w.heap.size w w':=by
  obtain⟨i0,hi,hz0,hz1,hz2⟩:=zW zat
  have hB1:Below w.heap.size w (w.alloc (.cells (reqL c n s t).toArray 81)):=(Below.refl _ _).alloc (Nat.le_refl _) _
  have hR1:=zcS w c n s t
  have hz1':w.heap.size<(w.alloc (.cells (reqL c n s t).toArray 81)).heap.size:=by simp
  have hiq:(prog.info? 81).map (·.size)=some (reqL c n s t).length:=by rw[za2 c n s t ht];exact iszR
  have cf:=fun w0=>zg8 none 0 [] c n s t w0 (zaR w0) (by simp) hc hn hs
  simp only[List.nil_append,List.length_nil]at cf
  have htg:=fun(w0:World) (b0:Nat) h1=>@zjS w0 b0 c n s t h1
  have lF:(putL c++putL n++textL s).length≤1000100:=by
    have h1:=zab c (by omega)
    have h2:=zab n (by omega)
    have h3:=zab s.size (by omega)
    simp only[textL,List.length_append,zN]
    omega
  obtain⟨F,hF⟩:∃F,Hid (putL c++putL n++textL s=F):=⟨_,hide rfl⟩
  simp only[hF.out]at cf
  rw[hF.out]at lF ⊢
  obtain⟨q,hq⟩:∃q,Hid (reqL c n s t=q):=⟨_,hide rfl⟩
  rw[hq.out]at hB1 hR1 hz1' hiq ⊢
  simp only[hq.out]at cf htg
  go_enter func179,ntmps179
  go_upto_region 1 with fail
  go_name_world w1 hw1
  rw[hw1]at hB1 hR1 hz1'
  clear hw1
  obtain⟨X,hX⟩:∃X,Hid (w.heap.size=X):=⟨_,hide rfl⟩
  rw[hX.out]at hR1 hz1' ⊢
  try simp only[Act.put]
  refine wp_region_list ?_
  refine wpList_load_mid rfl 81 _ rfl _ _ rfl q _ hR1 underlying81 rfl hiq ?_
  go_wp2_with fail
  refine(cf w1).mono ?_
  rintro e w2 ⟨v2,rfl,m2,hw2⟩
  have hB2:=hB1.trans (hw2.mono hB1.size)
  have hR2:=za hR1 hw2 hz1'
  have hX2:=Nat.lt_of_lt_of_le hz1' hw2.size
  obtain⟨a2,cap2,rfl,_,_,row2⟩:=m2.rowAt (by unfold maxLen;omega)
  have mF:=m2.2
  clear cf m2 hw2 hB1 hR1 hz1'
  go_wp2_with (first
    |refine wpList_make_own _ rfl _ _ 59 rfl w2.heap.size 5 i0 (.int .u8 0) 1 underlying59 hi hz0 hz1 .i64 .i64 _ (zs.length+F.length+16) rfl rfl ?d1 ?d2 ?d3 ?d4 ?_)
  case d1=>omega
  case d2=>rw[hz2];omega
  case d3=>unfold maxLen;omega
  case d4=>exact Nat.le_refl _
  intro w3 hown3 hgrow3
  have hb3:Below w2.heap.size w2 w3:=(Below.refl _ _).grown hgrow3 (Nat.le_refl _) (fun k hk=>by cases hk)
  go_wp2_with (at_builtin;refine zK _ rfl _ _ 59 59 rfl w2.heap.size 5 i0 (.int .u8 0) 1 1 underlying59 hi hz0 hz1 hz2 rfl _ 0 [] rfl hown3 (.slice a zs.length cap) zs.length (v8 zs) rfl ((h.below (hB2.trans (hb3.mono hB2.size))).src cap) ?c1 ?c2 ?c3 ?_)
  case c1=>unfold maxLen;omega
  case c2=>omega
  case c3=>exact hb3.size
  intro v4 w4 hown4 hgrow4
  have hb4:=zU hb3 hb3.size hown3 hgrow4
  have hown4':w4.ownsRow w2.heap.size 5 1 v4 zs.length (v8 zs):=by simpa using hown4
  obtain⟨b4,cp4,rfl⟩:∃b cp,v4=.slice b zs.length cp:=by
    rcases hown4'.2 with⟨rfl,h0⟩|⟨g,cp,cur,rfl,_⟩
    · exact⟨none,0,by rw[h0]⟩
    · exact⟨_,_,rfl⟩
  clear hown3 hgrow3 hown4 hgrow4 hb3
  go_wp2_with (at_builtin;refine zK _ rfl _ _ 59 59 rfl w2.heap.size 5 i0 (.int .u8 0) 1 1 underlying59 hi hz0 hz1 hz2 rfl _ zs.length (v8 zs) rfl hown4' (.slice a2 F.length cap2) F.length (v8 F) rfl ((row2.below hb4).src cap2) ?c1 ?c2 ?c3 ?_)
  case c1=>unfold maxLen;omega
  case c2=>omega
  case c3=>exact hb4.size
  intro v5 w5 hown5 hgrow5
  have hb5:=zU hb4 hb4.size hown4' hgrow5
  obtain⟨b5,cp5,rfl⟩:∃b cp,v5=.slice b (zs.length+F.length) cp:=by
    rcases hown5.2 with⟨rfl,h0⟩|⟨g,cp,cur,rfl,_⟩
    · exact⟨none,0,by rw[h0]⟩
    · exact⟨_,_,rfl⟩
  have hR5:=htg w5 X (za hR2 hb5 hX2)
  have hX5:=Nat.lt_of_lt_of_le hX2 hb5.size
  have rowT:RowAt w5 (some ⟨X,3,none⟩) t:=⟨by unfold maxLen;omega,htb,Or.inr ⟨X,3,rfl,hX5,hR5⟩⟩
  have srcT:=rowT.src 16
  rw[ht]at srcT
  have hsl:=fun w0=>zbu (P:=prog) underlying23 isz8 X 3 (by decide) w0
  clear hown4' hgrow5 hb4 row2 hR2
  go_wp2_with (at_builtin;refine zK _ rfl _ _ 59 59 rfl w2.heap.size 5 i0 (.int .u8 0) 1 1 underlying59 hi hz0 hz1 hz2 rfl _ (zs.length+F.length) (v8 zs++v8 F) rfl hown5 (.slice (some ⟨X,3,none⟩) 16 16) 16 (v8 t) rfl srcT ?c1 ?c2 ?c3 ?_)
  case c1=>unfold maxLen;omega
  case c2=>omega
  case c3=>exact hb5.size
  intro v6 w6 hown6 hgrow6
  have hb6:=zU hb5 hb5.size hown5 hgrow6
  go_wp2_with fail
  go_ret
  refine⟨_,rfl,?_,hB2.trans (hb6.mono hB2.size)⟩
  have hm:=Mine.mk' (zs++F++t) hown6 (by simp[ht];omega) (by simp[v8]) (by
    intro z hz'
    rcases List.mem_append.1 hz' with hz'|hz'
    · rcases List.mem_append.1 hz' with hz'|hz'
      · exact h.2.1 z hz'
      · exact mF z hz'
    · exact htb z hz')
  exact hm.mono' hB2.size
structure BRq where
 c:Int
 n:Int
 s:ByteArray
 t:List Int
deriving Inhabited
structure BRq.ok (r:BRq):Prop where
 tl:r.t.length=16
 tb:∀z∈r.t,0≤z∧z<256
 sl:r.s.size≤maxLen
 cl:-9223372036854775808≤r.c
 ch:r.c≤9223372036854775807
 nl:-9223372036854775808≤r.n
 nh:r.n≤9223372036854775807
def BRq.cells (r:BRq):List Value:=reqL r.c r.n r.s r.t
theorem BRq.ok.length {r:BRq} (h:r.ok):r.cells.length=19:=by
 have:=h.tl
 simp[BRq.cells,reqL,v8]
 omega
theorem BRq.one (r:BRq):∀v∈r.cells,v.oneCell'=true:=zcc _ _ _ _
def flatR (rs:List BRq):List Value:=rs.flatMap BRq.cells
theorem zlS {rs:List BRq} (h:∀r∈rs,r.ok):(flatR rs).length=rs.length*19:=by
  induction rs with
  |nil=>rfl
  |cons r rs ih=>
    have h1:=(h r (by simp)).length
    have h2:=ih (fun x hx=>h x (by simp[hx]))
    simp only[flatR,List.flatMap_cons,List.length_append,List.length_cons]at*
    omega
theorem zlT (a b:List BRq):flatR (a++b)=flatR a++flatR b:=by simp[flatR]
def ReqsAt (w:World) (a:Option Addr) (rs:List BRq):Prop:=
 rs.length≤maxLen∧(∀r∈rs,r.ok)∧(rs=[]∨∃b off,a=some ⟨b,off,none⟩∧b<w.heap.size∧w.rangeAt b off (flatR rs))
theorem ReqsAt.below {w w':World} {a:Option Addr} {rs:List BRq} (h:ReqsAt w a rs) (hb:Below w.heap.size w w'):ReqsAt w' a rs:=by
 refine⟨h.1,h.2.1,?_⟩
 rcases h.2.2 with h|⟨b,off,rfl,h1,h2⟩
 ·exact Or.inl h
 ·exact Or.inr ⟨b,off,rfl,Nat.lt_of_lt_of_le h1 hb.size,za h2 hb h1⟩
theorem zlR (rs:List BRq) (i:Nat) (hi:i<rs.length):flatR rs=flatR (rs.take i)++rs[i].cells++flatR (rs.drop (i+1)):=by
 have e:rs.take i++(rs[i]::rs.drop (i+1))=rs:=by rw[←List.drop_eq_getElem_cons hi,List.take_append_drop]
 have e2:=congrArg flatR e
 rw[←e2]
 simp only[flatR,List.flatMap_append,List.flatMap_cons,List.append_assoc]
theorem ReqsAt.elem {w:World} {a:Option Addr} {rs:List BRq} (h:ReqsAt w a rs) (i:Nat) (hi:i<rs.length):∃b off,a=some ⟨b,off,none⟩∧b<w.heap.size∧w.rangeAt b (off+i*19) rs[i].cells:=by
 rcases h.2.2 with h0|⟨b,off,rfl,h1,h2⟩
 ·subst h0;simp at hi
 ·refine⟨b,off,rfl,h1,?_⟩
  rw[zlR rs i hi]at h2
  have h3:=zdY h2
  rwa [zlS (fun r hr=>h.2.1 r (List.mem_of_mem_take hr)),List.length_take,Nat.min_eq_left (by omega)]at h3
theorem ReqsAt.none {w:World} {a:Option Addr}:ReqsAt w a []:=⟨by simp,by simp,.inl rfl⟩
def batV (b:Bool) (a:Option Addr) (n cap:Nat):Value:=.agg #[.bool b,.slice a n cap]
def BRq.bytes (r:BRq):List Int:=putL r.c++putL r.n++textL r.s++r.t
def batL (q:Bool) (rs:List BRq):List Int:=if q then putL 0 else putL ((rs.length:Int)+1)++rs.flatMap BRq.bytes
theorem BRq.ok.isz {r:BRq} (h:r.ok):(prog.info? 81).map (·.size)=some r.cells.length:=by rw[h.length];exact iszR
theorem BRq.ok.iszA {r:BRq} (h:r.ok):(prog.info? 81).map (·.size)=some r.cells.toArray.size:=by rw[List.size_toArray,h.length];exact iszR
theorem BRq.ok.blank {r:BRq} (h:r.ok) (w:World):(w.alloc (.cells #[.int .i64 0,.int .i64 0,.string ⟨#[]⟩,.int .u8 0,.int .u8 0,.int .u8 0,.int .u8 0,.int .u8 0,.int .u8 0,.int .u8 0,.int .u8 0,.int .u8 0,.int .u8 0,.int .u8 0,.int .u8 0,.int .u8 0,.int .u8 0,.int .u8 0,.int .u8 0] 81)).there w.heap.size 0 r.cells.toArray.size:=by
 have:=zE w #[.int .i64 0,.int .i64 0,.string ⟨#[]⟩,.int .u8 0,.int .u8 0,.int .u8 0,.int .u8 0,.int .u8 0,.int .u8 0,.int .u8 0,.int .u8 0,.int .u8 0,.int .u8 0,.int .u8 0,.int .u8 0,.int .u8 0,.int .u8 0,.int .u8 0,.int .u8 0] 81
 have e:r.cells.toArray.size=19:=by rw[List.size_toArray,h.length]
 rw[e];exact this
def BatBox (w:World) (b:Nat) (q:Bool) (a:Option Addr) (n cap:Nat):Prop:=b<w.heap.size∧w.cell? ⟨b,0,none⟩=some (.bool q)∧w.cell? ⟨b,1,none⟩=some (.slice a n cap)∧w.rangeAt b 0 [.bool q,.slice a n cap]
theorem BatBox.mk (w:World) (q:Bool) (a:Option Addr) (n cap:Nat):BatBox (w.alloc (.cells #[.bool q,.slice a n cap] 39)) w.heap.size q a n cap:=by
 have:=zC w #[.bool q,.slice a n cap] 39
 exact⟨by simp,this 0 _ rfl,this 1 _ rfl,this⟩
theorem iszB:(prog.info? 39).map (·.size)=some 2:=by kernel_rfl
def batP (rs:List BRq) (k:Nat):List Int:=putL ((rs.length:Int)+1)++(rs.take k).flatMap BRq.bytes
theorem znf (rs:List BRq) (k:Nat) (hk:k<rs.length):batP rs (k+1)=batP rs k++rs[k].bytes:=by
 unfold batP
 rw[List.take_succ_eq_append_getElem hk]
 simp only[List.flatMap_append,List.flatMap_cons,List.flatMap_nil,List.append_nil,List.append_assoc]
theorem zhQ (rs:List BRq):batP rs rs.length=batL false rs:=by unfold batP batL;simp
theorem zah (n:Int) (h:n≤9223372036854775807):(putL n).length≤9:=by
 have:=zab n (by omega)
 omega
theorem zhE {r:BRq} (h:r.ok) (hs:r.s.size≤4000):r.bytes.length≤4100:=by
 have h1:=zah r.c h.ch
 have h2:=zah r.n h.nh
 have h3:=zah (r.s.size:Int) (by omega)
 have h4:=h.tl
 simp only[BRq.bytes,textL,List.length_append,zN]
 omega
theorem zg5:∀(rs:List BRq),(∀r∈rs,r.ok)→(∀r∈rs,r.s.size≤4000)→(rs.flatMap BRq.bytes).length≤rs.length*4100
  |[],_,_=>by simp
  |r::rs,h1,h2=>by
    have k1:=zhE (h1 r (by simp)) (h2 r (by simp))
    have k2:=zg5 rs (fun x hx=>h1 x (by simp[hx])) (fun x hx=>h2 x (by simp[hx]))
    simp only[List.flatMap_cons,List.length_append,List.length_cons]
    omega
theorem zhP (rs:List BRq) (k:Nat) (hn:rs.length≤200) (h1:∀r∈rs,r.ok) (h2:∀r∈rs,r.s.size≤4000):(batP rs k).length≤900000:=by
 have k1:=zah ((rs.length:Int)+1) (by omega)
 have k2:=zg5 (rs.take k) (fun x hx=>h1 x (List.mem_of_mem_take hx)) (fun x hx=>h2 x (List.mem_of_mem_take hx))
 have k3:(rs.take k).length≤200:=by rw[List.length_take];omega
 have k4:(rs.take k).length*4100≤200*4100:=Nat.mul_le_mul_right _ k3
 simp only[batP,List.length_append]
 omega
theorem znh (q:Bool) (rs:List BRq) (hn:rs.length≤200) (h1:∀r∈rs,r.ok) (h2:∀r∈rs,r.s.size≤4000):(batL q rs).length≤900000:=by
  cases q with
  |false=>rw[←zhQ];exact zhP rs _ hn h1 h2
  |true=>have:=zah 0 (by omega);simp only[batL,if_true];omega
theorem BRq.ok.put {r:BRq} (h:r.ok) (hs:r.s.size≤4000) (w:World):Calls prog 179 #[.slice none 0 0,.agg r.cells.toArray] w fun e w'=>∃v,e=.returned v∧Mine w' w.heap.size v r.bytes∧Below w.heap.size w w':=by
 have:=zju none 0 [] r.c r.n r.s r.t w (zaR w) (by simp) h.tl h.tb h.ch h.nh (by omega)
 simpa only[List.nil_append,List.length_nil,BRq.bytes,BRq.cells]using this
theorem zmT (q:Bool) (a:Option Addr) (cap:Nat) (rs:List BRq) (w:World) (h:ReqsAt w a rs) (hn:rs.length≤200) (hs:∀r∈rs,r.s.size≤4000):
  Calls prog 171 #[batV q a rs.length cap] w fun e w'=>∃v,e=.returned v∧Mine w' w.heap.size v (batL q rs)∧Below w.heap.size w w':=by
 obtain⟨i0,hi,hz0,hz1,hz2⟩:=zW zat
 unfold batV
 have hB1:Below w.heap.size w (w.alloc (.cells #[.bool q,.slice a rs.length cap] 39)):=(Below.refl _ _).alloc (Nat.le_refl _) _
 have hb1:=BatBox.mk w q a rs.length cap
 cases q with
 |true=>
  have cp:=fun w0=>zbx none 0 [] 0 w0 (zaR w0) (by simp) (by omega)
  simp only[List.nil_append,List.length_nil]at cp
  have hL:Hid (batL true rs=putL 0):=by show _=_;simp[batL]
  rw[hL.out]
  go_enter func171,ntmps171
  go_upto_region 1 with fail
  go_name_world w1 hw1
  rw[hw1]at hB1 hb1
  clear hw1
  obtain⟨_,c0,c1,_⟩:=hb1
  go_wp2_with fail
  refine(cp w1).mono ?_
  rintro e w2 ⟨v2,rfl,m2,hw2⟩
  go_wp2_with fail
  go_ret
  exact⟨_,rfl,m2.mono' hB1.size,hB1.trans (hw2.mono hB1.size)⟩
 |false=>
  have hall:=h.2.1
  have hle:=fun k=>zhP rs k hn hall hs
  have cp:=fun w0=>zbx none 0 [] ((rs.length:Int)+1) w0 (zaR w0) (by simp) (by omega)
  simp only[List.nil_append,List.length_nil]at cp
  have h1:=h.below hB1
  go_enter func171,ntmps171
  go_upto_region 1 with fail
  go_name_world w1 hw1
  rw[hw1]at hB1 hb1 h1
  clear hw1
  obtain⟨_,c0,c1,_⟩:=hb1
  go_wp2_with fail
  refine(cp w1).mono ?_
  rintro e w2 ⟨v2,rfl,m2,hw2⟩
  have c1':=(hw2.cell (p:=⟨w.heap.size,1,none⟩) (by omega)).trans c1
  clear cp
  go_wp2
  go_loopw [3,17] (fun ov iv wr=>∃k:Nat,k≤rs.length∧iv=.int .i64 (k:Int)∧Hid (Mine wr w1.heap.size ov (batP rs k))∧Below w1.heap.size w1 wr) (fun _ iv _=>rs.length - (intOf iv).toNat)
  case atStart=>exact⟨0,by omega,rfl,hide (by simpa [batP]using m2),hw2⟩
  case round=>
   clear c1' m2 hw2
   obtain⟨k,hk,rfl,HM,hB⟩:=hrel
   by_cases hlt:k<rs.length
   ·have k1:(k:Int)<rs.length:=by omega
    have hrow:=h1.below hB
    have HS:=hide (znf rs k hlt)
    have hlen:=hle k
    obtain⟨b,off,rfl,hb,hre⟩:=hrow.elem k hlt
    obtain⟨r,hr⟩:∃r,Hid (rs[k]=r):=⟨_,hide rfl⟩
    have hok:r.ok:=by rw[←hr.out];exact hall _ (List.getElem_mem hlt)
    have hrs:r.s.size≤4000:=by rw[←hr.out];exact hs _ (List.getElem_mem hlt)
    rw[hr.out]at hre HS
    clear hr hrow
    have hiq:=hok.isz
    have hiA:=hok.iszA
    have hN:=hok.blank wr
    have h1c:=all_oneCell_toArray r.one
    have hbl:=zhE hok hrs
    have cpr:=fun w0=>hok.put hrs w0
    have F:=zq wr #[.int .i64 0,.int .i64 0,.string ⟨#[]⟩,.int .u8 0,.int .u8 0,.int .u8 0,.int .u8 0,.int .u8 0,.int .u8 0,.int .u8 0,.int .u8 0,.int .u8 0,.int .u8 0,.int .u8 0,.int .u8 0,.int .u8 0,.int .u8 0,.int .u8 0,.int .u8 0] 81 r.cells (by rw[hok.length];rfl)
    obtain⟨q,hq⟩:∃q,Hid (r.cells=q):=⟨_,hide rfl⟩
    rw[hq.out]at hre hiq hiA hN h1c F
    simp only[hq.out]at cpr
    obtain⟨bs,hbs⟩:∃bs,Hid (r.bytes=bs):=⟨_,hide rfl⟩
    simp only[hbs.out]at cpr
    rw[hbs.out]at HS hbl
    clear hq hbs hok hrs
    go_upto_region 6 with fail
    try simp only[Act.put]
    refine wp_region_list ?_
    refine wpList_step fun K hK=>?_
    go_simp
    refine hK _ _ ?_
    clear hK K
    refine wpList_load_mid rfl 81 _ rfl _ _ rfl q _ hre underlying81 rfl hiq ?_
    go_upto_region 7 with(refine wpList_store_mid (op:=⟨none,.store 81 (.tmp 5) (.tmp 20),_,_,_,none⟩) rfl 81 _ _ rfl _ _ q.toArray rfl rfl hN hiA h1c ?_)
    go_name_world w3 hw3
    rw[show(wr.alloc (.cells #[.int .i64 0,.int .i64 0,.string ⟨#[]⟩,.int .u8 0,.int .u8 0,.int .u8 0,.int .u8 0,.int .u8 0,.int .u8 0,.int .u8 0,.int .u8 0,.int .u8 0,.int .u8 0,.int .u8 0,.int .u8 0,.int .u8 0,.int .u8 0,.int .u8 0,.int .u8 0] 81)).setCells wr.heap.size 0 q=w3 from hw3]at F
    clear hw3 hN
    obtain⟨hR3,hF3,hz3,_⟩:=F
    have hB3:=hB.trans (hF3.mono hB.size)
    have HM3:=hide (HM.out.below hF3)
    clear HM hF3 hre
    try simp only[Act.put]
    refine wp_region_list ?_
    refine wpList_step fun K hK=>?_
    go_simp
    refine hK _ _ ?_
    clear hK K
    refine wpList_load_mid rfl 81 _ rfl _ _ rfl q _ hR3 underlying81 rfl hiq ?_
    go_wp2_with fail
    refine(cpr w3).mono ?_
    rintro e w4 ⟨v4,rfl,m4,hw4⟩
    have hB4:=hB3.trans (hw4.mono hB3.size)
    have m3:=HM3.out.below hw4
    obtain⟨a4,cap4,rfl,_,_,row4⟩:=m4.rowAt (by unfold maxLen;omega)
    clear HM3 cpr
    go_wp2_with (at_builtin;refine zK _ rfl _ _ 59 59 rfl w1.heap.size 5 i0 (.int .u8 0) 1 1 underlying59 hi hz0 hz1 hz2 rfl _ (batP rs k).length ((batP rs k).map (Value.int .u8)) rfl m3.1 (.slice a4 bs.length cap4) bs.length (v8 bs) rfl (row4.src cap4) ?c1 ?c2 ?c3 ?_)
    case c1=>unfold maxLen;omega
    case c2=>omega
    case c3=>exact hB4.size
    intro v5 w5 hown5 hgrow5
    have hB5:=zU hB4 hB4.size m3.1 hgrow5
    have mbs:=m4.2
    have mbp:=m3.2
    clear m3 m4 row4 hgrow5
    go_wp2
    go_roundw
    case rel=>
     refine⟨k+1,by omega,by go_num,hide ?_,hB5⟩
     rw[HS.out]
     exact Mine.mk' (batP rs k++bs) hown5 (by simp) (by simp[v8]) (by
      intro z hz'
      rcases List.mem_append.1 hz' with hz'|hz'
      ·exact mbp z hz'
      ·exact mbs z hz')
    case measure=>simp[intOf];omega
   ·obtain rfl:k=rs.length:=by omega
    go_wp2
    go_ret
    exact⟨_,rfl,by rw[←zhQ];exact HM.out.mono' hB1.size,hB1.trans (hB.mono hB1.size)⟩
theorem batI (q:Bool) (a:Option Addr) (n cap:Nat):(prog.info? 39).map (·.size)=some [Value.bool q,.slice a n cap].length:=iszB
theorem zm6 (a0:Option Addr) (cap0:Nat) (zs:List Int) (q:Bool) (a:Option Addr) (cap:Nat) (rs:List BRq) (w:World) (h0:RowAt w a0 zs) (hzl:zs.length≤90000) (h:ReqsAt w a rs) (hn:rs.length≤200) (hs:∀r∈rs,r.s.size≤4000):
  Calls prog 143 #[.slice a0 zs.length cap0,batV q a rs.length cap] w fun e w'=>∃v,e=.returned v∧Mine w' w.heap.size v (zs++batL q rs)∧Below w.heap.size w w':=by
 obtain⟨i0,hi,hz0,hz1,hz2⟩:=zW zat
 have lF:=znh q rs hn h.2.1 hs
 have cf:=fun w0 h0=>zmT q a cap rs w0 h0 hn hs
 unfold batV at cf ⊢
 obtain⟨F,hF⟩:∃F,Hid (batL q rs=F):=⟨_,hide rfl⟩
 rw[hF.out]at lF ⊢
 simp only[hF.out]at cf
 clear hF
 have hB1:Below w.heap.size w (w.alloc (.cells #[.bool q,.slice a rs.length cap] 39)):=(Below.refl _ _).alloc (Nat.le_refl _) _
 have hb1:=BatBox.mk w q a rs.length cap
 have h1:=h.below hB1
 have hib:=batI q a rs.length cap
 go_enter func143,ntmps143
 go_upto_region 1 with fail
 go_name_world w1 hw1
 rw[hw1]at hB1 hb1 h1
 clear hw1
 try simp only[Act.put]
 refine wp_region_list ?_
 refine wpList_load_mid rfl 39 _ rfl _ _ rfl [.bool q,.slice a rs.length cap] _ hb1.2.2.2 underlying39 rfl hib ?_
 go_wp2_with fail
 refine(cf w1 h1).mono ?_
 rintro e w2 ⟨v2,rfl,m2,hw2⟩
 have hB2:=hB1.trans (hw2.mono hB1.size)
 obtain⟨a2,cap2,rfl,_,_,row2⟩:=m2.rowAt (by unfold maxLen;omega)
 have mF:=m2.2
 clear cf m2 hw2 hb1 h1 hib h
 go_wp2_with (first
  |refine wpList_make_own _ rfl _ _ 59 rfl w2.heap.size 5 i0 (.int .u8 0) 1 underlying59 hi hz0 hz1 .i64 .i64 _ (zs.length+F.length) rfl rfl ?d1 ?d2 ?d3 ?d4 ?_)
 case d1=>omega
 case d2=>rw[hz2];omega
 case d3=>unfold maxLen;omega
 case d4=>exact Nat.le_refl _
 intro w3 hown3 hgrow3
 have hb3:Below w2.heap.size w2 w3:=(Below.refl _ _).grown hgrow3 (Nat.le_refl _) (fun k hk=>by cases hk)
 go_wp2_with (at_builtin;refine zK _ rfl _ _ 59 59 rfl w2.heap.size 5 i0 (.int .u8 0) 1 1 underlying59 hi hz0 hz1 hz2 rfl _ 0 [] rfl hown3 (.slice a0 zs.length cap0) zs.length (v8 zs) rfl ((h0.below (hB2.trans (hb3.mono hB2.size))).src cap0) ?c1 ?c2 ?c3 ?_)
 case c1=>unfold maxLen;omega
 case c2=>omega
 case c3=>exact hb3.size
 intro v4 w4 hown4 hgrow4
 have hb4:=zU hb3 hb3.size hown3 hgrow4
 have hown4':w4.ownsRow w2.heap.size 5 1 v4 zs.length (v8 zs):=by simpa using hown4
 obtain⟨b4,cp4,rfl⟩:∃b cp,v4=.slice b zs.length cp:=by
  rcases hown4'.2 with⟨rfl,h0⟩|⟨g,cp,cur,rfl,_⟩
  ·exact⟨none,0,by rw[h0]⟩
  ·exact⟨_,_,rfl⟩
 clear hown3 hgrow3 hown4 hgrow4 hb3
 go_wp2_with (at_builtin;refine zK _ rfl _ _ 59 59 rfl w2.heap.size 5 i0 (.int .u8 0) 1 1 underlying59 hi hz0 hz1 hz2 rfl _ zs.length (v8 zs) rfl hown4' (.slice a2 F.length cap2) F.length (v8 F) rfl ((row2.below hb4).src cap2) ?c1 ?c2 ?c3 ?_)
 case c1=>unfold maxLen;omega
 case c2=>omega
 case c3=>exact hb4.size
 intro v5 w5 hown5 hgrow5
 have hb5:=zU hb4 hb4.size hown4' hgrow5
 go_wp2_with fail
 go_ret
 refine⟨_,rfl,?_,hB2.trans (hb5.mono hB2.size)⟩
 have hm:=Mine.mk' (zs++F) hown5 (by simp) (by simp[v8]) (by
  intro z hz'
  rcases List.mem_append.1 hz' with hz'|hz'
  ·exact h0.2.1 z hz'
  ·exact mF z hz')
 exact hm.mono' hB2.size
open Go Go.RowKit
section
variable {P : Program} {ops : Array Oper} {Q : Exit → Act → World → Prop}
structure Pl (P:Program) (ops:Array Oper) (Q:Exit→Act→World→Prop) (l:List Oper) (a:Act) (w:World):Prop where
 out:wpList P ops Q l a w
theorem zkg {id:Nat} {a:Act} {w:World} (h:Pl P ops Q ops.toList a w):(Code.region id ops false).wp P Q a w:=wp_region_list h.out
theorem zb {a:Act} {w:World} (h:Q .normal a w):Pl P ops Q [] a w:=⟨wpList_nil h⟩
theorem zd2 {o:Oper} {rest:List Oper} {d:Option Nat} {v:Value} {a:Act} {w:World} (hw:Region.wanted o (yielded ops a.tmps)=true) (hy:(execOp a.eval o).run P w=.ok (.value v) w) (hd:o.dst=d)
  (h:Pl P ops Q rest (a.put d v) w):Pl P ops Q (o::rest) a w:=by
 subst hd
 refine⟨wpList_step fun K hK=>?_⟩
 rw[if_pos hw]
 unfold Oper.wp
 rw[hy]
 exact hK _ _ h.out
theorem pl_t (d:Nat) (v:Value) {o:Oper} {rest:List Oper} {a:Act} {w:World} (hw:Region.wanted o (yielded ops a.tmps)=true) (hy:(execOp a.eval o).run P w=.ok (.value v) w) (hd:o.dst=some d) (h:Pl P ops Q rest (a.put (some d) v) w):Pl P ops Q (o::rest) a w:=zd2 hw hy hd h
theorem zke {o:Oper} {rest:List Oper} {d:Option Nat} {a:Act} {w:World} (hw:Region.wanted o (yielded ops a.tmps)=false) (hd:o.dst=d)
  (h:Pl P ops Q rest (a.put d undef) w):Pl P ops Q (o::rest) a w:=by
 subst hd
 refine⟨wpList_step fun K hK=>?_⟩
 rw[if_neg (by simp[hw])]
 exact hK _ _ h.out
theorem zgd {o:Oper} {rest:List Oper} {d:Option Nat} {v:Value} {a:Act} {w w':World} (hw:Region.wanted o (yielded ops a.tmps)=true) (hy:(execOp a.eval o).run P w=.ok (.value v) w') (hd:o.dst=d)
  (h:Pl P ops Q rest (a.put d v) w'):Pl P ops Q (o::rest) a w:=by
 subst hd
 refine⟨wpList_step fun K hK=>?_⟩
 rw[if_pos hw]
 unfold Oper.wp
 rw[hy]
 exact hK _ _ h.out
theorem zkf {o:Oper} {rest:List Oper} {d:Option Nat} {f:FuncId} {args:Array Value} {a:Act} {w:World} (hw:Region.wanted o (yielded ops a.tmps)=true) (hy:(execOp a.eval o).run P w=.ok (.enter f args) w) (hd:o.dst=d)
  (h:Calls P f args w fun e w'=>∃v,e=.returned v∧Pl P ops Q rest (a.put d v) w'):Pl P ops Q (o::rest) a w:=by
 subst hd
 refine⟨wpList_step fun K hK=>?_⟩
 rw[if_pos hw]
 unfold Oper.wp
 rw[hy]
 refine h.mono ?_
 rintro e w' ⟨v,rfl,hk⟩
 exact hK _ _ hk.out
theorem zjn (w:World) (p:Addr) (ty:TypeId) (v:Value) (d:TypeDesc) (hc:w.cell? p=some v) (hu:P.underlying ty=some d) (hd:d.isRow=false):(loadVar ty p).run P w=.ok v w:=by
 have hagg:(isAgg ty).run P w=.ok false w:=by
  unfold isAgg
  rw[Sem.run_bind,run_underlying hu w]
  cases d<;>simp_all
 simp[loadVar,Sem.run_bind,hagg,load,Sem.run,hc]
theorem zf {o:Oper} {a:Act} {w:World} {ty:TypeId} {x:Operand} (ho:o.op=.load ty x) {p:Addr} (hx:a.eval x=.pointer (some p)) {v:Value} {d:TypeDesc} (hc:w.cell? p=some v) (hu:P.underlying ty=some d) (hd:d.isRow=false):(execOp a.eval o).run P w=.ok (.value v) w:=by
 unfold execOp
 simp only[ho,hx,Instr.loadAt,Instr.sureAddr,Sem.run_bind,Sem.run_pure,Result.andThen_ok,zjn w p ty v d hc hu hd]
theorem pl_b {id:Nat} {a a':Act} {w:World} (h:Pl P ops Q ops.toList a' w) (ha:a=a':=by first|(simp only[Act.put];try rfl)|rfl):(Code.region id ops false).wp P Q a w:=ha.symm▸zkg h
theorem pl_a (d:Nat) {v:Value} {o:Oper} {rest:List Oper} {a a':Act} {w:World} (h:Pl P ops Q rest a' w) (hy:(execOp a.eval o).run P w=.ok (.value v) w:=by(go_simp;try with_reducible rfl)) (ha:a.put (some d) v=a':=by(simp only[nz];try rfl)) (hw:Region.wanted o (yielded ops a.tmps)=true:=by rfl) (hd:o.dst=some d:=by rfl):Pl P ops Q (o::rest) a w:=zd2 hw hy hd (ha▸h)
theorem pl_v (d:Nat) (v:Value) {o:Oper} {rest:List Oper} {a a':Act} {w:World} (hy:(execOp a.eval o).run P w=.ok (.value v) w) (h:Pl P ops Q rest a' w) (ha:a.put (some d) v=a':=by(simp only[nz];try rfl)) (hw:Region.wanted o (yielded ops a.tmps)=true:=by rfl) (hd:o.dst=some d:=by rfl):Pl P ops Q (o::rest) a w:=zd2 hw hy hd (ha▸h)
theorem pl_k (d:Nat) {o:Oper} {rest:List Oper} {a a':Act} {w:World} (h:Pl P ops Q rest a' w) (ha:a.put (some d) undef=a':=by(simp only[nz];try rfl)) (hw:Region.wanted o (yielded ops a.tmps)=false:=by rfl) (hd:o.dst=some d:=by rfl):Pl P ops Q (o::rest) a w:=zke hw hd (ha▸h)
theorem pl_r (d:Nat) (v:Value) (w':World) {o:Oper} {rest:List Oper} {a a':Act} {w:World} (hy:(execOp a.eval o).run P w=.ok (.value v) w') (h:Pl P ops Q rest a' w') (ha:a.put (some d) v=a':=by(simp only[nz];try rfl)) (hw:Region.wanted o (yielded ops a.tmps)=true:=by rfl) (hd:o.dst=some d:=by rfl):Pl P ops Q (o::rest) a w:=zgd hw hy hd (ha▸h)
theorem pl_c (d:Nat) {o:Oper} {rest:List Oper} {f:FuncId} {args:Array Value} {a:Act} {w:World} (h:Calls P f args w fun e w'=>∃v,e=.returned v∧Pl P ops Q rest (a.put (some d) v) w') (hy:(execOp a.eval o).run P w=.ok (.enter f args) w:=by(go_simp;first|done|exact⟨rfl,rfl⟩|with_reducible rfl)) (hw:Region.wanted o (yielded ops a.tmps)=true:=by rfl) (hd:o.dst=some d:=by rfl):Pl P ops Q (o::rest) a w:=zkf hw hy hd h
end
end Go.Proofs.YtcbpbkefggekmaaGreatDoor
namespace Go.Proofs.YtcbpbkefggekmaaGreatDoor
open Go.RowKit
open Sha Tal
set_option linter.unusedVariables false
set_option linter.unusedSimpArgs false
theorem zm {P:Program} {op:Oper} {a:Act} {ty:TypeId} {x:Operand} (ho:op.op=.load ty x) {b o:Nat} (hx:a.eval x=.pointer (some ⟨b,o,none⟩)) {cs:List Value} {d:TypeDesc} {w:World} (hr:w.rangeAt b o cs) (hu:P.underlying ty=some d) (hd:d.isRow=true) (hi:(P.info? ty).map (·.size)=some cs.length):(execOp a.eval op).run P w=.ok (.value (.agg cs.toArray)) w:=
 zcr ho hx (run_loadVar_mid w b o ty cs d hr hu hd hi)
theorem zo {P:Program} {o:Oper} {a:Act} {w:World} {ty:TypeId} {x y:Operand} {b off:Nat} {cs:Array Value} (ho:o.op=.store ty x y) (hx:a.eval x=.pointer (some ⟨b,off,none⟩)) (hy:a.eval y=.agg cs) (ht:w.there b off cs.size) (hi:(P.info? ty).map (·.size)=some cs.size) (h1:cs.all (·.oneCell')=true):(execOp a.eval o).run P w=.ok .skip (w.setCells b off cs.toList):=
 zbG ho hx hy (run_storeVar_mid w b off ty cs ht hi h1)
theorem zr {P:Program} {o:Oper} {a:Act} {w:World} {t:TypeId} {z:Value} (ho:o.op=.alloc t) (hz:(zeroValue t).run P w=.ok z w):(execOp a.eval o).run P w=.ok (.value (.pointer (some ⟨w.heap.size,0,none⟩))) (w.alloc (.cells z.cells t)):=by
 unfold execOp
 simp[ho,hz,Instr.alloc,newVar,newRow]
section
variable {P : Program} {ops : Array Oper} {Q : Exit → Act → World → Prop}
theorem zkd {o:Oper} {rest:List Oper} {a:Act} {w w':World} (hw:Region.wanted o (yielded ops a.tmps)=true) (hy:(execOp a.eval o).run P w=.ok .skip w') (hd:o.dst=none)
  (h:Pl P ops Q rest a w'):Pl P ops Q (o::rest) a w:=by
 refine⟨wpList_step fun K hK=>?_⟩
 rw[if_pos hw]
 unfold Oper.wp
 rw[hy,Oper.upon_skip,hd]
 exact hK _ _ h.out
theorem pl_s (w':World) {o:Oper} {rest:List Oper} {a:Act} {w:World} (hy:(execOp a.eval o).run P w=.ok .skip w') (h:Pl P ops Q rest a w') (hw:Region.wanted o (yielded ops a.tmps)=true:=by rfl) (hd:o.dst=none:=by rfl):Pl P ops Q (o::rest) a w:=zkd hw hy hd h
end
theorem zn (w:World) (arr:Array Value) (t:TypeId) {n:Nat} (h:arr.size=n):(w.alloc (.cells arr t)).there w.heap.size 0 n:=h▸zE w arr t
theorem zp {cs:List Value} (h:∀v∈cs,v.oneCell'=true):cs.toArray.all (·.oneCell')=true:=by
 rw[Array.all_eq_true_iff_forall_mem]
 intro v hv
 exact h v (by simpa using hv)
def WrOn (X:Nat) (v:Value) (zs bs:List Int) (w:World) (e:Ending) (w':World):Prop:=∃v',e=.returned (.tuple #[])∧WrAt w' X v' (zs++bs) false∧Off (WrF X v) w w'∧RowOn w v v'
theorem zdj {zs:List Int} {n:Nat} (h:zs.length+n≤4194304):fullB false (n:Int) zs=false:=by
 unfold fullB
 rw[Bool.false_or]
 exact decide_eq_false (by omega)
theorem zcd (X:Nat) (v:Value) (zs:List Int) (a:Option Addr) (cap:Nat) (bs:List Int) (w:World) (h:WrAt w X v zs false) (hr:RowAt w a bs) (hne:bs=[]∨∀x,a=some x→x.block≠X) (hl:zs.length+bs.length≤4194304):
  Calls prog 93 #[.pointer (some ⟨X,0,none⟩),.slice a bs.length cap] w fun e w'=>WrOn X v zs bs w e w':=by
 have c:=zdX X v zs false a cap bs w h hr hne (by omega)
 rw[zdj hl,zbL]at c
 exact c.mono (fun e w' ⟨v',q1,q2,q3,q4⟩=>⟨v',q1,q2,q3,q4⟩)
theorem zdu:∀(ns:List Int) (zs:List Int),zs.length+(ns.flatMap putL).length≤4194304→wrN (zs,false) ns=(zs++ns.flatMap putL,false)
  |[],zs,_=>by simp[wrN]
  |n::ns,zs,h=>by
    simp only[List.flatMap_cons,List.length_append]at h
    have e:wrS (zs,false) (putL n)=(zs++putL n,false):=by
      unfold wrS
      simp only
      rw[zdj (by omega),zbL]
    show wrN (wrS (zs,false) (putL n)) ns=_
    rw[e,zdu ns (zs++putL n) (by rw[List.length_append];omega),List.flatMap_cons,List.append_assoc]
theorem zak (X:Nat) (v:Value) (zs:List Int) (ns:List Int) (arr:Array Value) (n:Nat) (w:World) (h:WrAt w X v zs false) (ha:arr=(ns.map (Value.int .i64)).toArray) (hc:ns.length=n) (hn10:n≤10) (hn:∀n∈ns,n≤9223372036854775807) (hl:zs.length+(ns.flatMap putL).length≤4194304):
  Calls prog 87 #[.pointer (some ⟨X,0,none⟩),.slice (some ⟨w.heap.size,0,none⟩) n n] (w.alloc (.cells arr 3)) fun e w'=>WrOn X v zs (ns.flatMap putL) w e w':=by
 have c:=zgw X v (zs,false) ns arr n w h ha hc hn10 hn (by show zs.length≤4194304;omega)
 rw[zdu ns zs hl]at c
 exact c.mono (fun e w' ⟨v',q1,q2,q3,q4⟩=>⟨v',q1,q2,q3,q4⟩)
theorem WrOn.next {X:Nat} {v v1:Value} {zs bs cs:List Int} {w w1 w2:World} {e:Ending} (hO:Off (WrF X v) w w1) (hR:RowOn w v v1) (h:WrOn X v1 (zs++bs) cs w1 e w2):WrOn X v zs (bs++cs) w e w2:=by
 obtain⟨v',q1,q2,q3,q4⟩:=h
 have T:=zF hO hR q3 q4
 exact⟨v',q1,by rw[←List.append_assoc];exact q2,T.1,T.2⟩
theorem zae {X:Nat} {v:Value} {w w1 w2:World} {zs:List Int} {lg:Bool} (h:WrAt w X v zs lg) (hs:w.heap.size<w1.heap.size) (hO:Off (WrF X v) w1 w2) {o:Nat} {cs:List Value} (r:w1.rangeAt w.heap.size o cs):w2.rangeAt w.heap.size o cs:=zcg r (zeW h hs hO)
theorem zad {X n:Nat} {v:Value} {w w':World} {zs:List Int} {lg:Bool} (h:WrAt w X v zs lg) (hn:n≤X) (hO:Off (WrF X v) w w'):Below n w w':=hO.below (by have:=h.lt;omega) (fun b hb hf=>by
 rcases hf with hf|hf
 ·omega
 ·have:=(h.me.from _ hf).1;omega)
theorem zar (w:World) (v:Value):RowOn w v v:=fun g hg=>.inl hg
theorem WrOn.from {X:Nat} {v:Value} {zs bs:List Int} {w w1:World} {e:Ending} {w':World} (hb:Below w.heap.size w w1) (h:WrOn X v zs bs w1 e w'):WrOn X v zs bs w e w':=by
 obtain⟨v',q1,q2,q3,q4⟩:=h
 have T:=zF (Off.of_below hb) (zar w v) q3 q4
 exact⟨v',q1,q2,T.1,T.2⟩
theorem zaA (x:Int) (w:World):(Instr.buildSlice 207 1 #[(0,.int .i64 x)]).run prog w=.ok (.slice (some ⟨w.heap.size,0,none⟩) 1 1) (w.alloc (.cells #[.int .i64 x] 3)):=by kernel_rfl
theorem zfK (x y:Int) (w:World):(Instr.buildSlice 207 2 #[(0,.int .i64 x),(1,.int .i64 y)]).run prog w=.ok (.slice (some ⟨w.heap.size,0,none⟩) 2 2) (w.alloc (.cells #[.int .i64 x,.int .i64 y] 3)):=by kernel_rfl
theorem zfJ (x y z:Int) (w:World):(Instr.buildSlice 207 3 #[(0,.int .i64 x),(1,.int .i64 y),(2,.int .i64 z)]).run prog w=.ok (.slice (some ⟨w.heap.size,0,none⟩) 3 3) (w.alloc (.cells #[.int .i64 x,.int .i64 y,.int .i64 z] 3)):=by kernel_rfl
theorem zav {P:Program} {o:Oper} {a:Act} {w w':World} {t:TypeId} {x:Operand} {u r:Value} (ho:o.op=.buildSlice t 1 #[(0,x)]) (hx:a.eval x=u) (hr:(Instr.buildSlice t 1 #[(0,u)]).run P w=.ok r w'):(execOp a.eval o).run P w=.ok (.value r) w':=by
 unfold execOp
 simp[ho,hx,hr]
theorem zhf {P:Program} {o:Oper} {a:Act} {w w':World} {t:TypeId} {x y:Operand} {u v r:Value} (ho:o.op=.buildSlice t 2 #[(0,x),(1,y)]) (hx:a.eval x=u) (hy:a.eval y=v) (hr:(Instr.buildSlice t 2 #[(0,u),(1,v)]).run P w=.ok r w'):(execOp a.eval o).run P w=.ok (.value r) w':=by
 unfold execOp
 simp[ho,hx,hy,hr]
theorem zhe {P:Program} {o:Oper} {a:Act} {w w':World} {t:TypeId} {x y z:Operand} {u v q r:Value} (ho:o.op=.buildSlice t 3 #[(0,x),(1,y),(2,z)]) (hx:a.eval x=u) (hy:a.eval y=v) (hz:a.eval z=q) (hr:(Instr.buildSlice t 3 #[(0,u),(1,v),(2,q)]).run P w=.ok r w'):(execOp a.eval o).run P w=.ok (.value r) w':=by
 unfold execOp
 simp[ho,hx,hy,hz,hr]
theorem zeT (X:Nat) (v:Value) (zs:List Int) (st:ByteArray) (w:World) (h:WrAt w X v zs false) (hs:st.size≤1000000) (hl:zs.length+(textL st).length≤4194304):Calls prog 95 #[.pointer (some ⟨X,0,none⟩),.string st] w fun e w'=>WrOn X v zs (textL st) w e w':=by
 have htl:(textL st).length=(putL st.size).length+st.size:=by unfold textL;rw[List.length_append,zN]
 have cr:=zfT X v zs false (st.size:Int) w h (by omega)
 rw[zdj (by omega)]at cr
 have h1:=h.flag false
 have hO1:Off (WrF X v) w (w.setCell ⟨X,1,none⟩ (.bool false)):=Off.of_setCell w _ _ (.inl rfl)
 obtain⟨w1,hw1⟩:∃w1,w.setCell ⟨X,1,none⟩ (.bool false)=w1:=⟨_,rfl⟩
 rw[hw1]at cr h1 hO1
 have cp:=zd1 none 0 [] st w1 (zaR w1) (by simp) (by omega)
 rw[List.nil_append]at cp
 clear htl
 generalize textL st=bs at *
 clear hw1
 simp only[Bool.not_false]at cr
 go_enter func95,ntmps95
 go_wp2_with fail
 refine cr.mono ?_
 rintro _ w1' ⟨rfl,hx⟩
 obtain rfl:=hx.symm
 clear hx cr
 go_wp2_with fail
 refine cp.mono ?_
 rintro _ w2 ⟨v2,rfl,hM,hB⟩
 obtain⟨a2,cap2,rfl,_,_,hrw⟩:=hM.rowAt (by unfold maxLen;omega)
 have hMf:=hM.fresh
 have h2:=h1.below hB
 have c2:=zcd X v zs a2 cap2 bs w2 h2 hrw (.inr (fun x hx=>by have:=hMf x hx;have:=h1.lt;omega)) hl
 have T:=zF hO1 (zar w v) (Off.of_below hB) (zar w1 v)
 clear hM hMf hB cp hrw
 go_wp2_with fail
 refine c2.mono ?_
 rintro _ w3 ⟨v3,rfl,g1,g2,g3⟩
 have T2:=zF T.1 T.2 g2 g3
 go_wp2_with fail
 go_end0
 exact⟨v3,rfl,g1,T2.1,T2.2⟩
def sgL (g:Sg):List Int:=putL g.n++g.t
def sgsL (xs:List Sg):List Int:=putL xs.length++xs.flatMap sgL
def evL (g:Ev):List Int:=putL g.n++(textL g.s++g.t)
def evsL (xs:List Ev):List Int:=putL xs.length++xs.flatMap evL
def vtL (x:Vt):List Int:=([x.k,x.e,x.v,x.s].flatMap putL)++x.d
def BRq.of (r:Rq):BRq:=⟨r.c,r.n,r.s,r.t⟩
def ctL (x:Vt) (xs:List Sg):List Int:=vtL x++sgsL xs
def hdL (h:Hd):List Int:=batL h.q (h.rs.xs.map BRq.of)++ctL h.vt h.sg.xs
def hdsL (xs:List Hd):List Int:=putL xs.length++xs.flatMap hdL
theorem zeV (X:Nat) (v:Value) (zs:List Int) (g:Sg) (hg:g.ok) (w:World) (h:WrAt w X v zs false) (hl:zs.length+(sgL g).length≤4194304):Calls prog 97 #[.pointer (some ⟨X,0,none⟩),.agg g.cells.toArray] w fun e w'=>WrOn X v zs (sgL g) w e w':=by
 obtain⟨n,t⟩:=g
 have ht16:t.length=16:=hg.tl
 have htb:=hg.tb
 have hn:n≤9223372036854775807:=hg.nh
 have hl':zs.length+(putL n).length+16≤4194304:=by
  have:(sgL ⟨n,t⟩).length=(putL n).length+16:=by unfold sgL;rw[List.length_append,ht16]
  omega
 have hR:(w.alloc (.cells (Sg.mk n t).cells.toArray 133)).rangeAt w.heap.size 0 (Sg.mk n t).cells:=by simpa using zC w (Sg.mk n t).cells.toArray 133
 have c0:=hR 0 _ rfl
 have hT:(w.alloc (.cells (Sg.mk n t).cells.toArray 133)).rangeAt w.heap.size 1 (v8 t):=fun j u hj=>by
  have:=hR (1+j) u (by rw[Nat.add_comm];exact hj)
  rwa [Nat.zero_add]at this
 have hB1:Below w.heap.size w (w.alloc (.cells (Sg.mk n t).cells.toArray 133)):=(Below.refl _ _).alloc (Nat.le_refl _) _
 have hs1:w.heap.size<(w.alloc (.cells (Sg.mk n t).cells.toArray 133)).heap.size:=by simp
 simp only[Nat.add_zero]at c0
 unfold sgL
 simp only
 generalize (Sg.mk n t).cells=q at *
 have hXl:=h.lt
 go_enter func97,ntmps97
 go_upto_region 1 with fail
 obtain⟨w1,hw1⟩:∃W,w.alloc (.cells q.toArray 133)=W:=⟨_,rfl⟩
 rw[hw1]at hR c0 hT hB1 hs1 ⊢
 have h1:=h.below hB1
 clear hw1 hg hR
 refine pl_b ?_
 refine pl_a 4 ?_
 refine pl_a 5 ?_
 refine pl_v 6 (.int .i64 n) (zf rfl rfl c0 underlying3 rfl) ?_
 refine pl_r 7 (.slice (some ⟨w1.heap.size,0,none⟩) 1 1) (w1.alloc (.cells #[.int .i64 n] 3)) (zav rfl rfl (zaA n _)) ?_
 refine pl_c 8 ?_
 refine(zak X v zs [n] _ 1 w1 h1 rfl rfl (by omega) (zaz hn) (by simp;omega)).mono ?_
 rintro _ w2 ⟨v2,rfl,hW2,hO2,hr2⟩
 refine⟨_,rfl,?_⟩
 simp only[nz]
 refine zb ?_
 have hT2:=zae h hs1 hO2 hT
 have hs2:=hO2.size
 obtain⟨Z,hZ⟩:∃Z,Hid (w.heap.size=Z):=⟨_,hide rfl⟩
 have hZX:Z≠X:=by rw[←hZ.out];omega
 have hZ2:Z<w2.heap.size:=by rw[←hZ.out];omega
 rw[hZ.out]at hT2 ⊢
 have hW2:WrAt w2 X v2 (zs++putL n) false:=by simpa using hW2
 have hrow:RowAt w2 (some ⟨Z,1,none⟩) t:=⟨by rw[ht16];decide,htb,.inr ⟨_,_,rfl,by omega,hT2⟩⟩
 have cr:=zcd X v2 (zs++putL n) (some ⟨Z,1,none⟩) 16 t w2 hW2 hrow (.inr (fun x hx=>by cases hx;show Z≠X;omega)) (by simp only[List.length_append];omega)
 rw[show t.length=16 from ht16]at cr
 clear hT hT2 c0
 have T:=zF (Off.of_below hB1) (zar w v) hO2 hr2
 go_wp2_with fail
 refine cr.mono ?_
 intro _ w3 hfin
 have hF:=WrOn.next T.1 T.2 hfin
 obtain⟨v3,rfl,g1,g2,g3⟩:=hF
 go_wp2_with fail
 go_end0
 exact⟨v3,rfl,g1,g2,g3⟩
end Go.Proofs.YtcbpbkefggekmaaGreatDoor
