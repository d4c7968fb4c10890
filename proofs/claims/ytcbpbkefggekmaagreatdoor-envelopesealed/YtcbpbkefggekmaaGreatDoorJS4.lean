/- message.bare at marks and statuses; Two arrays of bytes, compared.; votes compared; lists without an element; certs and messages without lists against themselve -/
import Derived.Test.YtcbpbkefggekmaaGreatDoorJS0
import Derived.Test.YtcbpbkefggekmaaGreatDoorJS3
import Derived.Test.YtcbpbkefggekmaaGreatDoorJS1
import Derived.Laws.StructEq
import Derived.BigQuiet
import Derived.Lib.ConvBytes
import Derived.Laws.ResultCell
set_option maxHeartbeats 4000000
set_option maxRecDepth 100000
open Go.Proofs.Tryz
namespace Go.Proofs.YtcbpbkefggekmaaGreatDoor
open Go.RowKit
open Sha Tal
theorem zaS {P:Program} (w:World) (b o:Nat) (ty:TypeId) (v:Value) (ht:w.there b o 1) (hi:(P.info? ty).map (·.size)=some 1) (hv:v.cells=#[v]) (h1:v.oneCell'=true):
    (storeVar ty ⟨b,o,none⟩ v).run P w=.ok () (w.setCells b o [v]):=by
  have:=run_storeCells_cells (P:=P) b o [v] 0 w (fun j hj=>by simpa using(ht j (by simpa using hj)).1) (fun j hj=>by simpa using(ht j (by simpa using hj)).2)
    (fun x hx=>by rw[List.mem_singleton.1 hx];exact h1)
  cases hq:P.info? ty with
  |none=>simp[hq]at hi
  |some i=>
    have hs:i.size=1:=by simpa [hq]using hi
    simp only[Nat.add_zero]at this
    simp[storeVar,sizeOf,typeInfo,hq,hv,hs,this]
theorem zaM {P:Program} {o:Oper} {a:Act} {w w':World} {ty:TypeId} {x y:Operand} {b off:Nat} {v:Value} (ho:o.op=.store ty x y) (hx:a.eval x=.pointer (some ⟨b,off,none⟩)) (hy:a.eval y=v) (hr:(storeVar ty ⟨b,off,none⟩ v).run P w=.ok () w'):(execOp a.eval o).run P w=.ok .skip w':=by
 unfold execOp
 simp only[ho,hx,hy,Instr.storeAt,Instr.sureAddr,Sem.run_bind,Sem.run_pure,Result.andThen_ok,hr]
theorem zu {P:Program} {o:Oper} {a:Act} {w:World} {ty:TypeId} {x:Operand} {b off:Nat} {v:Value} (ho:o.op=.load ty x) (hx:a.eval x=.pointer (some ⟨b,off,none⟩)) (hr:(loadVar ty ⟨b,off,none⟩).run P w=.ok v w):(execOp a.eval o).run P w=.ok (.value v) w:=by
 unfold execOp
 simp only[ho,hx,Instr.loadAt,Instr.sureAddr,Sem.run_bind,Sem.run_pure,Result.andThen_ok,hr]
theorem iszI:(prog.info? 3).map (·.size)=some 1:=by kernel_rfl
theorem iszD:(prog.info? 41).map (·.size)=some 32:=by kernel_rfl
open Sha
theorem zhV:∀(xs ys:List Int),xs.length=ys.length→((List.range xs.length).all fun i=>xs.getD i 0==ys.getD i 0)=(xs==ys)
  |[],[],_=>rfl
  |x::xs,y::ys,h=>by
    have ih:=zhV xs ys (by simpa using h)
    rw[List.length_cons,List.range_succ_eq_map,List.all_cons,List.all_map]
    simp only[List.getD_cons_zero,Function.comp_def,List.getD_cons_succ,ih]
    simp[List.cons_beq_cons]
  |[],_::_,h=>by simp at h
  |_::_,[],h=>by simp at h
theorem zbw {P:Program} (w:World) (d:Nat) (t e:TypeId) (n:Nat) (ht:P.underlying t=some (.array n e)) (he:P.underlying e=some (.int .u8)) (hsz:(P.info? e).map (·.size)=some 1)
    (xs ys:List Int) (hx:xs.length=n) (hy:ys.length=n):
    (Op.equalIn (d+2) t (.agg (v8 xs).toArray) (.agg (v8 ys).toArray)).run P w=.ok (xs==ys) w:=by
  rw[←zhV xs ys (hx.trans hy.symm),hx,List.range_eq_range',Op.equalIn]
  simp only[Sem.run_bind,run_underlying ht,Result.andThen_ok,zbR hsz,Std.Legacy.Range.forIn_eq_forIn_range',Std.Legacy.Range.size,Nat.sub_zero,Nat.add_sub_cancel,Nat.div_one]
  have hl:∀i∈List.range' 0 n 1,i<n:=fun i hi=>by simpa using(List.mem_range'_1.1 hi).2
  generalize List.range' 0 n 1=l at hl ⊢
  induction l with
  |nil=>simp
  |cons i l ih=>
    have hi:i<n:=hl i (by simp)
    have px:(part e (v8 xs).toArray (i*1)).run P w=.ok (.int .u8 (xs.getD i 0)) w:=by
      simp[part,isAgg,run_underlying he,v8,List.getElem?_eq_getElem (show i<xs.length by omega)]
    have py:(part e (v8 ys).toArray (i*1)).run P w=.ok (.int .u8 (ys.getD i 0)) w:=by
      simp[part,isAgg,run_underlying he,v8,List.getElem?_eq_getElem (show i<ys.length by omega)]
    have pe:(Op.equalIn (d+1) e (.int .u8 (xs.getD i 0)) (.int .u8 (ys.getD i 0))).run P w=.ok (xs.getD i 0==ys.getD i 0) w:=run_equalIn_int w d e .u8 .u8 _ _ he
    simp only[List.forIn_cons,Sem.run_bind,px,py,pe,Result.andThen_ok,List.all_cons]
    cases hb:(xs.getD i 0==ys.getD i 0)
    · simp
    · simp only[Bool.not_true,Bool.false_eq_true,if_false,Sem.run_pure,Result.andThen_ok,Bool.true_and]
      exact ih fun j hj=>hl j (by simp[hj])
theorem fldV : (prog.fieldsOf 43).toList.map (fun f => (f.name, f.type, f.offset)) = [("Kind", 3, 0), ("Epoch", 3, 1), ("View", 3, 2), ("Slot", 3, 3), ("Digest", 41, 4)] := by kernel_rfl
theorem undV:prog.underlying 43=some (.struct (prog.fieldsOf 43)):=by kernel_rfl
theorem sihV:prog.stoodInHeld 43=false:=by kernel_rfl
theorem zas (w:World) (q:List Value) (i:Nat) (c:Int) (h:q[i]? =some (.int .i64 c)):(part 3 q.toArray i).run prog w=.ok (.int .i64 c) w:=by
 simp[part,isAgg,run_underlying underlying3,h]
theorem zge (w:World) (x:Vt) (hd:x.d.length=32):(part 41 x.cells.toArray 4).run prog w=.ok (.agg (v8 x.d).toArray) w:=by
 have hx:List.take 32 (List.drop 4 x.cells)=v8 x.d:=by
  show List.take 32 (v8 x.d)=v8 x.d
  rw[List.take_of_length_le (by rw[v8_length,hd];exact Nat.le_refl _)]
 simp[part,isAgg,run_underlying underlying41,zbR iszD,hx]
def vtB (x y:Vt):Bool:=(x.k==y.k)&&((x.e==y.e)&&((x.v==y.v)&&((x.s==y.s)&&(x.d==y.d))))
theorem zb3 {x y:Vt}:vtB x y=true↔x=y:=by
 obtain⟨k,e,v,s,d⟩:=x
 obtain⟨k',e',v',s',d'⟩:=y
 simp[vtB]
theorem vtEqIn (x y:Vt) (hx:x.d.length=32) (hy:y.d.length=32) (d:Nat) (w:World):
  (Op.equalIn (d+2+1) 43 (.agg x.cells.toArray) (.agg y.cells.toArray)).run prog w=.ok (vtB x y) w:=by
 rw[run_equalIn_struct w (d+2) 43 _ _ undV sihV]
 have hf:=fldV
 generalize (prog.fieldsOf 43).toList=fs at hf
 obtain⟨f0,f1,f2,f3,f4,rfl⟩:∃f0 f1 f2 f3 f4,fs=[f0,f1,f2,f3,f4]:=by
  rcases fs with _|⟨f0,_|⟨f1,_|⟨f2,_|⟨f3,_|⟨f4,_|⟨f5,fs⟩⟩⟩⟩⟩⟩<;>simp at hf
  exact⟨f0,f1,f2,f3,f4,rfl⟩
 simp only[List.map_cons,List.map_nil,List.cons.injEq,Prod.mk.injEq,and_true]at hf
 obtain⟨⟨a0,b0,d0⟩,⟨a1,b1,d1⟩,⟨a2,b2,d2⟩,⟨a3,b3,d3⟩,⟨a4,b4,d4⟩⟩:=hf
 have p0:=zas w x.cells 0 x.k rfl
 have q0:=zas w y.cells 0 y.k rfl
 have p1:=zas w x.cells 1 x.e rfl
 have q1:=zas w y.cells 1 y.e rfl
 have p2:=zas w x.cells 2 x.v rfl
 have q2:=zas w y.cells 2 y.v rfl
 have p3:=zas w x.cells 3 x.s rfl
 have q3:=zas w y.cells 3 y.s rfl
 have p4:=zge w x hx
 have q4:=zge w y hy
 have e0:=fun a b=>run_equalIn_int (P:=prog) w (d+1) 3 .i64 .i64 a b underlying3
 have e4:=zbw (P:=prog) w d 41 5 32 underlying41 underlying5 isz8 x.d y.d hx hy
 unfold vtB
 generalize x.cells.toArray=q at *
 generalize y.cells.toArray=q' at *
 obtain⟨T,hT⟩:∃T,(v8 x.d).toArray=T:=⟨_,rfl⟩
 obtain⟨T',hT'⟩:∃T,(v8 y.d).toArray=T:=⟨_,rfl⟩
 rw[hT]at p4 e4
 rw[hT']at q4 e4
 clear hT hT'
 obtain⟨D,hD⟩:∃D,d+1+1=D:=⟨_,rfl⟩
 have e4:(Op.equalIn (d+1+1) 41 (.agg T) (.agg T')).run prog w=.ok (x.d==y.d) w:=e4
 rw[hD]at e4
 have n0 : ¬ ("Kind" = "_") := by decide
 have n1 : ¬ ("Epoch" = "_") := by decide
 have n2 : ¬ ("View" = "_") := by decide
 have n3 : ¬ ("Slot" = "_") := by decide
 have n4 : ¬ ("Digest" = "_") := by decide
 simp only[Op.eqFields,a0,a1,a2,a3,a4,b0,b1,b2,b3,b4,d0,d1,d2,d3,d4,ne_eq,n0,n1,n2,n3,n4,not_false_eq_true,if_true]
 rw[show d+2=d+1+1 from rfl,hD]
 rw[hD]at e0
 clear hD
 simp only[Sem.run_bind,p0,q0,Result.andThen_ok,e0]
 cases (x.k==y.k)
 ·simp only[Bool.not_false,if_true,Sem.run_pure,Bool.false_and]
 ·simp only[Bool.not_true,Bool.false_eq_true,if_false,Sem.run_bind,p1,q1,Result.andThen_ok,e0,Bool.true_and]
  cases (x.e==y.e)
  ·simp only[Bool.not_false,if_true,Sem.run_pure,Bool.false_and]
  ·simp only[Bool.not_true,Bool.false_eq_true,if_false,Sem.run_bind,p2,q2,Result.andThen_ok,e0,Bool.true_and]
   cases (x.v==y.v)
   ·simp only[Bool.not_false,if_true,Sem.run_pure,Bool.false_and]
   ·simp only[Bool.not_true,Bool.false_eq_true,if_false,Sem.run_bind,p3,q3,Result.andThen_ok,e0,Bool.true_and]
    cases (x.s==y.s)
    ·simp only[Bool.not_false,if_true,Sem.run_pure,Bool.false_and]
    ·simp only[Bool.not_true,Bool.false_eq_true,if_false,Sem.run_bind,p4,q4,Result.andThen_ok,e4,Bool.true_and]
     cases (x.d==y.d)
     ·simp only[Bool.not_false,if_true,Sem.run_pure]
     ·simp only[Bool.not_true,Bool.false_eq_true,if_false,Sem.run_pure]
theorem eqInV (x y:Vt) (hx:x.d.length=32) (hy:y.d.length=32) (w:World):(Op.equalIn 10000 43 (.agg x.cells.toArray) (.agg y.cells.toArray)).run prog w=.ok (vtB x y) w:=vtEqIn x y hx hy 9997 w
theorem eqInD (x y:List Int) (hx:x.length=32) (hy:y.length=32) (w:World):(Op.equalIn 10000 41 (.agg (v8 x).toArray) (.agg (v8 y).toArray)).run prog w=.ok (x==y) w:=zbw w 9998 41 5 32 underlying41 underlying5 isz8 x y hx hy
theorem ze7 (x:Vt):vtB x x=true:=zb3.2 rfl
theorem eqR0 (w:World):Calls prog 162 #[.slice none 0 0,.slice none 0 0] w fun e w'=>e=.returned (.bool true)∧w'=w:=by
 go_enter func162,ntmps162
 go_wp2
 go_loopw [13] (fun iv wr=>iv=.int .i64 0∧wr=w) (fun _ _=>0)
 case atStart=>exact⟨rfl,rfl⟩
 case round=>
  obtain⟨rfl,rfl⟩:=hrel
  go_wp2
  go_ret
  exact⟨rfl,rfl⟩
theorem eqE0 (w:World):Calls prog 132 #[.slice none 0 0,.slice none 0 0] w fun e w'=>e=.returned (.bool true)∧w'=w:=by
 go_enter func132,ntmps132
 go_wp2
 go_loopw [13] (fun iv wr=>iv=.int .i64 0∧wr=w) (fun _ _=>0)
 case atStart=>exact⟨rfl,rfl⟩
 case round=>
  obtain⟨rfl,rfl⟩:=hrel
  go_wp2
  go_ret
  exact⟨rfl,rfl⟩
theorem eqS0 (w:World):Calls prog 134 #[.slice none 0 0,.slice none 0 0] w fun e w'=>e=.returned (.bool true)∧w'=w:=by
 go_enter func134,ntmps134
 go_wp2
 go_loopw [13] (fun iv wr=>iv=.int .i64 0∧wr=w) (fun _ _=>0)
 case atStart=>exact⟨rfl,rfl⟩
 case round=>
  obtain⟨rfl,rfl⟩:=hrel
  go_wp2
  go_ret
  exact⟨rfl,rfl⟩
theorem eqH0 (f:Value) (w:World):Calls prog 163 #[.slice none 0 0,.slice none 0 0,f] w fun e w'=>e=.returned (.bool true)∧w'=w:=by
 go_enter func163,ntmps163
 go_wp2
 go_loopw [17] (fun iv wr=>iv=.int .i64 0∧wr=w) (fun _ _=>0)
 case atStart=>exact⟨rfl,rfl⟩
 case round=>
  obtain⟨rfl,rfl⟩:=hrel
  go_wp2
  go_ret
  exact⟨rfl,rfl⟩
theorem amR0 (m:Int) (f:Value) (hm:0≤m) (w:World):Calls prog 165 #[.slice none 0 0,.int .i64 m,f] w fun e w'=>e=.returned (.bool true)∧w'=w:=by
 go_enter func165,ntmps165
 go_wp2
 go_loopw [15] (fun iv wr=>iv=.int .i64 0∧wr=w) (fun _ _=>0)
 case atStart=>exact⟨rfl,rfl⟩
 case round=>
  obtain⟨rfl,rfl⟩:=hrel
  go_wp2
  go_ret
  exact⟨rfl,rfl⟩
theorem amH0 (m:Int) (f:Value) (hm:0≤m) (w:World):Calls prog 167 #[.slice none 0 0,.int .i64 m,f] w fun e w'=>e=.returned (.bool true)∧w'=w:=by
 go_enter func167,ntmps167
 go_wp2
 go_loopw [15] (fun iv wr=>iv=.int .i64 0∧wr=w) (fun _ _=>0)
 case atStart=>exact⟨rfl,rfl⟩
 case round=>
  obtain⟨rfl,rfl⟩:=hrel
  go_wp2
  go_ret
  exact⟨rfl,rfl⟩
theorem amS0 (m:Int) (f:Value) (hm:0≤m) (w:World):Calls prog 169 #[.slice none 0 0,.int .i64 m,f] w fun e w'=>e=.returned (.bool true)∧w'=w:=by
 go_enter func169,ntmps169
 go_wp2
 go_loopw [15] (fun iv wr=>iv=.int .i64 0∧wr=w) (fun _ _=>0)
 case atStart=>exact⟨rfl,rfl⟩
 case round=>
  obtain⟨rfl,rfl⟩:=hrel
  go_wp2
  go_ret
  exact⟨rfl,rfl⟩
theorem amE0 (m:Int) (f:Value) (hm:0≤m) (w:World):Calls prog 140 #[.slice none 0 0,.int .i64 m,f] w fun e w'=>e=.returned (.bool true)∧w'=w:=by
 go_enter func140,ntmps140
 go_wp2
 go_loopw [15] (fun iv wr=>iv=.int .i64 0∧wr=w) (fun _ _=>0)
 case atStart=>exact⟨rfl,rfl⟩
 case round=>
  obtain⟨rfl,rfl⟩:=hrel
  go_wp2
  go_ret
  exact⟨rfl,rfl⟩
def bat0 (q:Bool):Value:=.agg #[.bool q,.slice none 0 0]
theorem zm5 (q:Bool) (w:World):Calls prog 130 #[bat0 q,bat0 q] w fun e w'=>e=.returned (.bool true)∧Below w.heap.size w w':=by
 have hB:Below w.heap.size w ((w.alloc (.cells #[.bool q,.slice none 0 0] 39)).alloc (.cells #[.bool q,.slice none 0 0] 39)):=((Below.refl _ w).alloc (Nat.le_refl _) _).alloc (by simp) _
 unfold bat0
 cases q
 all_goals
  go_enter func130,ntmps130
  go_wp2_with (go_at_call 162;refine(eqR0 _).mono ?_;rintro e1 w1 ⟨rfl,hx⟩;obtain rfl:=hx.symm;clear hx)
  go_ret
  exact⟨rfl,hB⟩
theorem zng (q:Bool) (w:World):Calls prog 138 #[bat0 q] w fun e w'=>e=.returned (.bool true)∧Below w.heap.size w w':=by
 have hB:Below w.heap.size w (w.alloc (.cells #[.bool q,.slice none 0 0] 39)):=(Below.refl _ w).alloc (Nat.le_refl _) _
 unfold bat0
 cases q
 all_goals
  go_enter func138,ntmps138
  go_wp2_with (go_at_call 165;refine(amR0 _ _ (by omega) _).mono ?_;rintro e1 w1 ⟨rfl,hx⟩;obtain rfl:=hx.symm;clear hx)
  go_ret
  exact⟨rfl,hB⟩
theorem zi5 (w:World):Calls prog 142 #[.slice none 0 0] w fun e w'=>e=.returned (.bool true)∧w'=w:=by
 go_enter func142,ntmps142
 go_wp2_with (go_at_call 169;refine(amS0 _ _ (by omega) _).mono ?_;rintro e1 w1 ⟨rfl,hx⟩;obtain rfl:=hx.symm;clear hx)
 go_ret
 exact⟨rfl,rfl⟩
def chg0:Value:=.agg #[.int .i64 0,.int .i64 0,.int .i64 0,.slice none 0 0]
theorem zji (w:World):Calls prog 131 #[chg0,chg0] w fun e w'=>e=.returned (.bool true)∧Below w.heap.size w w':=by
 have hB:Below w.heap.size w ((w.alloc (.cells #[.int .i64 0,.int .i64 0,.int .i64 0,.slice none 0 0] 46)).alloc (.cells #[.int .i64 0,.int .i64 0,.int .i64 0,.slice none 0 0] 46)):=((Below.refl _ w).alloc (Nat.le_refl _) _).alloc (by simp) _
 unfold chg0
 go_enter func131,ntmps131
 go_wp2_with (go_at_call 163;refine(eqH0 _ _).mono ?_;rintro e1 w1 ⟨rfl,hx⟩;obtain rfl:=hx.symm;clear hx)
 go_ret
 exact⟨rfl,hB⟩
theorem zmK (w:World):Calls prog 139 #[chg0] w fun e w'=>e=.returned (.bool true)∧Below w.heap.size w w':=by
 have hB:Below w.heap.size w (w.alloc (.cells #[.int .i64 0,.int .i64 0,.int .i64 0,.slice none 0 0] 46)):=(Below.refl _ w).alloc (Nat.le_refl _) _
 have i1:inB 0 1048576=true:=rfl
 have i2:inB 0 64=true:=rfl
 have i3:inB 0 1099511627776=true:=rfl
 unfold chg0
 go_enter func139,ntmps139
 go_wp2_with (first|(go_at_call 135;refine(zaf _ _ _).mono ?_;rintro e1 w1 ⟨rfl,hx⟩;obtain rfl:=hx.symm;clear hx;(first|rw[i1]|rw[i2]|rw[i3]))|(go_at_call 167;refine(amH0 _ _ (by omega) _).mono ?_;rintro e1 w1 ⟨rfl,hx⟩;obtain rfl:=hx.symm;clear hx))
 go_ret
 exact⟨rfl,hB⟩
theorem zM {P:Program} {ops:Array Oper} {rest:List Oper} {op:Oper} {a:Act} {w:World} {Q:Exit→Act→World→Prop} (hgd:Region.wanted op (yielded ops a.tmps)=true) (ty:TypeId) (x:Operand) (ho:op.op=.load ty x)
  (b o:Nat) (hx:a.eval x=.pointer (some ⟨b,o,none⟩)) (cs:List Value) (d:TypeDesc) (hc:w.rangeAt b o cs)
  (hu:P.underlying ty=some d) (hd:d.isRow=true) (hi:(P.info? ty).map (·.size)=some cs.length)
  (h:wpList P ops Q rest (a.put op.dst (.agg cs.toArray)) w):wpList P ops Q (op::rest) a w:=
 wpList_step fun _ hK=>by rw[if_pos hgd];exact wp_load_mid ty x ho b o hx cs d hc hu hd hi (hK _ _ h)
theorem iszC:(prog.info? 50).map (·.size)=some 37:=by kernel_rfl
def zbb (x:Vt):List Value:=x.cells++[.slice none 0 0]
theorem zfg (q:List Value) (t:TypeId) (w:World):((w.alloc (.cells q.toArray t)).alloc (.cells q.toArray t)).rangeAt w.heap.size 0 q∧((w.alloc (.cells q.toArray t)).alloc (.cells q.toArray t)).rangeAt (w.heap.size+1) 0 q∧Below w.heap.size w ((w.alloc (.cells q.toArray t)).alloc (.cells q.toArray t))∧w.heap.size+2≤((w.alloc (.cells q.toArray t)).alloc (.cells q.toArray t)).heap.size:=by
 have hB:Below w.heap.size w (w.alloc (.cells q.toArray t)):=(Below.refl _ _).alloc (Nat.le_refl _) _
 have hB2:Below (w.alloc (.cells q.toArray t)).heap.size (w.alloc (.cells q.toArray t)) ((w.alloc (.cells q.toArray t)).alloc (.cells q.toArray t)):=(Below.refl _ _).alloc (Nat.le_refl _) _
 have h1:=zC w q.toArray t
 have h2:=zC (w.alloc (.cells q.toArray t)) q.toArray t
 rw[World.size_alloc]at h2
 exact⟨za (by simpa using h1) hB2 (by simp),by simpa using h2,hB.trans (hB2.mono (by simp)),by simp⟩
theorem zjj (x:Vt) (hx:x.ok) (w:World):Calls prog 133 #[.agg (zbb x).toArray,.agg (zbb x).toArray] w fun e w'=>e=.returned (.bool true)∧Below w.heap.size w w':=by
 obtain⟨hA,hA',hB,hs⟩:=zfg (zbb x) 50 w
 have r1:=zI hA
 have r1':=zI hA'
 have c1:=zO hA 0 _ rfl
 have c1':=zO hA' 0 _ rfl
 rw[hx.len]at c1 c1'
 simp only[Nat.zero_add,Nat.add_zero]at c1 c1'
 have ix:(prog.info? 43).map (·.size)=some x.cells.length:=by rw[hx.len];exact iszV
 have hq:=eqInV x x hx.dl hx.dl
 rw[ze7]at hq
 clear hA hA' hs hx
 generalize zbb x=q at *
 generalize x.cells=u at *
 go_enter func133,ntmps133
 go_upto_region 1 with fail
 go_name_world w1 hw1
 rw[show(w.alloc (.cells q.toArray 50)).alloc (.cells q.toArray 50)=w1 from hw1]at r1 r1' c1 c1' hB
 clear hw1
 go_wp2_with (first|(refine wpList_load_mid rfl 43 _ rfl _ _ rfl u _ r1 underlying43 rfl ix ?_)|(refine wpList_load_mid rfl 43 _ rfl _ _ rfl u _ r1' underlying43 rfl ix ?_)|(go_at_call 134;refine(eqS0 _).mono ?_;rintro e1 w2 ⟨rfl,hx⟩;obtain rfl:=hx.symm;clear hx))
 go_ret
 exact⟨rfl,hB⟩
theorem zkO (k e s:Int) (x:Vt) (d:List Int) (hx:x.ok) (hd:d.length=32) (hdb:∀z∈d,0≤z∧z<256) (w:World):Calls prog 84 #[.agg (Ms.plain k e s x d).cells.toArray,.agg (Ms.plain k e s x d).cells.toArray] w fun e w'=>e=.returned (.bool true)∧Below w.heap.size w w':=by
 have hm:=Ms.plain_ok k e s hx hd hdb
 obtain⟨hA,hA',hB,hs⟩:=zfg (Ms.plain k e s x d).cells 52 w
 obtain⟨W,hW⟩:∃W,Hid ((w.alloc (.cells (Ms.plain k e s x d).cells.toArray 52)).alloc (.cells (Ms.plain k e s x d).cells.toArray 52)=W):=⟨_,hide rfl⟩
 rw[hW.out]at hA hA' hB hs
 have M:=hm.at hA
 have M':=hm.at hA'
 have ix:(prog.info? 43).map (·.size)=some x.cells.length:=by rw[hx.len];exact iszV
 have id:(prog.info? 41).map (·.size)=some (v8 d).length:=by rw[v8_length,hd];exact iszD
 have ic:(prog.info? 50).map (·.size)=some (zbb Vt.zero).length:=by rw[show(zbb Vt.zero).length=37 from rfl];exact iszC
 have hq:=eqInV x x hx.dl hx.dl
 have hq2:=eqInD d d hd hd
 rw[ze7]at hq
 rw[show(d==d)=true by simp]at hq2
 have cC:=fun w0=>zjj Vt.zero Vt.zero_ok w0
 have cK:W.cell? ⟨w.heap.size,0,none⟩=some (.int .i64 k):=M.k
 have cE:W.cell? ⟨w.heap.size,1,none⟩=some (.int .i64 e):=M.e
 have cL:W.cell? ⟨w.heap.size,2,none⟩=some (.int .i64 0):=M.l
 have cV:W.cell? ⟨w.heap.size,3,none⟩=some (.int .i64 0):=M.v
 have cS:W.cell? ⟨w.heap.size,4,none⟩=some (.int .i64 s):=M.s
 have cQ:W.cell? ⟨w.heap.size,5,none⟩=some (.bool false):=M.q
 have cR:W.cell? ⟨w.heap.size,6,none⟩=some (.slice none 0 0):=M.rs
 have c1:W.cell? ⟨w.heap.size,43,none⟩=some (.int .i64 0):=M.ce
 have c2:W.cell? ⟨w.heap.size,44,none⟩=some (.int .i64 0):=M.cl
 have c3:W.cell? ⟨w.heap.size,45,none⟩=some (.int .i64 0):=M.cv
 have cH:W.cell? ⟨w.heap.size,46,none⟩=some (.slice none 0 0):=M.he
 have cN:W.cell? ⟨w.heap.size,47,none⟩=some (.slice none 0 0):=M.ne
 have cT:W.cell? ⟨w.heap.size,117,none⟩=some (.string ⟨#[]⟩):=M.st
 have cG:W.cell? ⟨w.heap.size,118,none⟩=some (.slice none 0 0):=M.sg
 have rV:W.rangeAt (w.heap.size) 7 x.cells:=M.vt
 have rD:W.rangeAt (w.heap.size) 48 (v8 d):=M.d
 have rC:W.rangeAt (w.heap.size) 80 (zbb Vt.zero):=M.ct
 have cK':W.cell? ⟨w.heap.size+1,0,none⟩=some (.int .i64 k):=M'.k
 have cE':W.cell? ⟨w.heap.size+1,1,none⟩=some (.int .i64 e):=M'.e
 have cL':W.cell? ⟨w.heap.size+1,2,none⟩=some (.int .i64 0):=M'.l
 have cV':W.cell? ⟨w.heap.size+1,3,none⟩=some (.int .i64 0):=M'.v
 have cS':W.cell? ⟨w.heap.size+1,4,none⟩=some (.int .i64 s):=M'.s
 have cQ':W.cell? ⟨w.heap.size+1,5,none⟩=some (.bool false):=M'.q
 have cR':W.cell? ⟨w.heap.size+1,6,none⟩=some (.slice none 0 0):=M'.rs
 have c1':W.cell? ⟨w.heap.size+1,43,none⟩=some (.int .i64 0):=M'.ce
 have c2':W.cell? ⟨w.heap.size+1,44,none⟩=some (.int .i64 0):=M'.cl
 have c3':W.cell? ⟨w.heap.size+1,45,none⟩=some (.int .i64 0):=M'.cv
 have cH':W.cell? ⟨w.heap.size+1,46,none⟩=some (.slice none 0 0):=M'.he
 have cN':W.cell? ⟨w.heap.size+1,47,none⟩=some (.slice none 0 0):=M'.ne
 have cT':W.cell? ⟨w.heap.size+1,117,none⟩=some (.string ⟨#[]⟩):=M'.st
 have cG':W.cell? ⟨w.heap.size+1,118,none⟩=some (.slice none 0 0):=M'.sg
 have rV':W.rangeAt (w.heap.size+1) 7 x.cells:=M'.vt
 have rD':W.rangeAt (w.heap.size+1) 48 (v8 d):=M'.d
 have rC':W.rangeAt (w.heap.size+1) 80 (zbb Vt.zero):=M'.ct
 clear hA hA' hm M M' hx hd hdb
 generalize (Ms.plain k e s x d).cells=q at *
 generalize x.cells=u at *
 generalize v8 d=ud at *
 generalize zbb Vt.zero=uc at *
 go_enter func84,ntmps84
 go_upto_region 1 with fail
 go_name_world w1 hw1
 obtain rfl:W=w1:=hW.out.symm.trans hw1
 clear hw1 hW
 go_upto_region 3 with fail
 try simp only[Act.put]
 refine wp_region_list ?_
 refine wpList_step fun K hK=>?_
 go_simp
 refine hK _ _ ?_
 clear hK K
 refine wpList_load_mid rfl 43 _ rfl _ _ rfl u _ rV underlying43 rfl ix ?_
 refine wpList_step fun K hK=>?_
 go_simp
 refine hK _ _ ?_
 clear hK K
 refine wpList_load_mid rfl 43 _ rfl _ _ rfl u _ rV' underlying43 rfl ix ?_
 refine wpList_step fun K hK=>?_
 go_simp
 try rw[hq]
 try go_simp
 refine hK _ _ ?_
 clear hK K
 refine wpList_step fun K hK=>?_
 go_simp
 refine hK _ _ ?_
 clear hK K
 refine wpList_step fun K hK=>?_
 go_simp
 refine hK _ _ ?_
 clear hK K
 refine zM (by rfl) 41 _ rfl _ _ rfl ud _ rD underlying41 rfl id ?_
 refine wpList_step fun K hK=>?_
 go_simp
 refine hK _ _ ?_
 clear hK K
 refine zM (by rfl) 41 _ rfl _ _ rfl ud _ rD' underlying41 rfl id ?_
 refine wpList_step fun K hK=>?_
 go_simp
 try rw[hq2]
 try go_simp
 refine hK _ _ ?_
 clear hK K
 refine wpList_step fun K hK=>?_
 go_simp
 refine hK _ _ ?_
 clear hK K
 refine wpList_step fun K hK=>?_
 go_simp
 refine hK _ _ ?_
 clear hK K
 refine wpList_step fun K hK=>?_
 go_simp
 refine hK _ _ ?_
 clear hK K
 refine wpList_step fun K hK=>?_
 go_simp
 refine hK _ _ ?_
 clear hK K
 refine wpList_step fun K hK=>?_
 go_simp
 refine hK _ _ ?_
 clear hK K
 refine wpList_step fun K hK=>?_
 go_simp
 refine hK _ _ ?_
 clear hK K
 refine wpList_step fun K hK=>?_
 go_simp
 refine hK _ _ ?_
 clear hK K
 refine wpList_step fun K hK=>?_
 go_simp
 refine hK _ _ ?_
 clear hK K
 refine wpList_step fun K hK=>?_
 go_simp
 refine hK _ _ ?_
 clear hK K
 go_upto_region 5 with fail
 clear cK cE cL cV cS cK' cE' cL' cV' cS' rV rV' rD rD' cT cT' hq hq2
 go_wp2_with fail
 refine(zm5 false _).mono ?_
 rintro e2 w2 ⟨rfl,hb2⟩
 have up:=fun i v (h:W.cell? ⟨w.heap.size,i,none⟩=some v)=>(hb2.cell (p:=⟨w.heap.size,i,none⟩) (show w.heap.size<W.heap.size by omega)).trans h
 replace c1:=up _ _ c1
 replace c2:=up _ _ c2
 replace c3:=up _ _ c3
 replace cH:=up _ _ cH
 replace cN:=up _ _ cN
 replace cG:=up _ _ cG
 replace rC:=za rC hb2 (by omega)
 clear up
 have up':=fun i v (h:W.cell? ⟨w.heap.size+1,i,none⟩=some v)=>(hb2.cell (p:=⟨w.heap.size+1,i,none⟩) (show w.heap.size+1<W.heap.size by omega)).trans h
 replace c1':=up' _ _ c1'
 replace c2':=up' _ _ c2'
 replace c3':=up' _ _ c3'
 replace cH':=up' _ _ cH'
 replace cN':=up' _ _ cN'
 replace cG':=up' _ _ cG'
 replace rC':=za rC' hb2 (by omega)
 clear up'
 have hs2:=Nat.le_trans hs hb2.size
 have hB2:=hB.trans (hb2.mono (by omega))
 clear cQ cR cQ' cR' hb2 hs hB
 go_wp2_with fail
 refine(zji _).mono ?_
 rintro e3 w3 ⟨rfl,hb3⟩
 have up:=fun i v (h:w2.cell? ⟨w.heap.size,i,none⟩=some v)=>(hb3.cell (p:=⟨w.heap.size,i,none⟩) (show w.heap.size<w2.heap.size by omega)).trans h
 replace cN:=up _ _ cN
 replace cG:=up _ _ cG
 replace rC:=za rC hb3 (by omega)
 clear up
 have up':=fun i v (h:w2.cell? ⟨w.heap.size+1,i,none⟩=some v)=>(hb3.cell (p:=⟨w.heap.size+1,i,none⟩) (show w.heap.size+1<w2.heap.size by omega)).trans h
 replace cN':=up' _ _ cN'
 replace cG':=up' _ _ cG'
 replace rC':=za rC' hb3 (by omega)
 clear up'
 have hs3:=Nat.le_trans hs2 hb3.size
 have hB3:=hB2.trans (hb3.mono (by omega))
 clear c1 c2 c3 cH c1' c2' c3' cH' hb3 hs2 hB2
 go_wp2_with fail
 refine(eqE0 _).mono ?_
 rintro e4 w4 ⟨rfl,hx⟩
 obtain rfl:=hx.symm
 clear hx cN cN'
 go_wp2_with (first|(refine zM (by rfl) 50 _ rfl _ _ rfl uc _ rC underlying50 rfl ic ?_)|(refine zM (by rfl) 50 _ rfl _ _ rfl uc _ rC' underlying50 rfl ic ?_))
 refine(cC _).mono ?_
 rintro e5 w5 ⟨rfl,hb5⟩
 have up:=fun i v (h:w3.cell? ⟨w.heap.size,i,none⟩=some v)=>(hb5.cell (p:=⟨w.heap.size,i,none⟩) (show w.heap.size<w3.heap.size by omega)).trans h
 replace cG:=up _ _ cG
 clear up
 have up':=fun i v (h:w3.cell? ⟨w.heap.size+1,i,none⟩=some v)=>(hb5.cell (p:=⟨w.heap.size+1,i,none⟩) (show w.heap.size+1<w3.heap.size by omega)).trans h
 replace cG':=up' _ _ cG'
 clear up'
 have hB5:=hB3.trans (hb5.mono (by omega))
 clear rC rC' hb5 hs3 hB3 cC
 go_wp2_with fail
 refine(eqS0 _).mono ?_
 rintro e6 w6 ⟨rfl,hx⟩
 obtain rfl:=hx.symm
 clear hx cG cG'
 go_wp2_with fail
 go_ret
 exact⟨rfl,hB5⟩
theorem zdg:(prog.info? 46).map (·.size)=some 4:=by kernel_rfl
theorem zch {x:Vt} (hx:x.ok):(Ms.plain 2 0 0 x zd).ok:=Ms.plain_ok 2 0 0 hx zt zx
theorem zlO (x:Vt) (hx:x.ok) (w:World):Calls prog 86 #[.agg (Ms.plain 2 0 0 x zd).cells.toArray] w fun e w'=>e=.returned (.bool x.may)∧Below w.heap.size w w':=by
 have hm:(Ms.plain 2 0 0 x zd).ok:=zch hx
 have hB:Below w.heap.size w (w.alloc (.cells (Ms.plain 2 0 0 x zd).cells.toArray 52)):=(Below.refl _ _).alloc (Nat.le_refl _) _
 have hs:w.heap.size<(w.alloc (.cells (Ms.plain 2 0 0 x zd).cells.toArray 52)).heap.size:=by simp
 have M:=(Ms.plain 2 0 0 x zd).box hm w
 obtain⟨W,hW⟩:∃W,Hid (w.alloc (.cells (Ms.plain 2 0 0 x zd).cells.toArray 52)=W):=⟨_,hide rfl⟩
 rw[hW.out]at hB hs M
 have cK:W.cell? ⟨w.heap.size,0,none⟩=some (.int .i64 2):=M.k
 have cE:W.cell? ⟨w.heap.size,1,none⟩=some (.int .i64 0):=M.e
 have cL:W.cell? ⟨w.heap.size,2,none⟩=some (.int .i64 0):=M.l
 have cV:W.cell? ⟨w.heap.size,3,none⟩=some (.int .i64 0):=M.v
 have cS:W.cell? ⟨w.heap.size,4,none⟩=some (.int .i64 0):=M.s
 have cQ:W.cell? ⟨w.heap.size,5,none⟩=some (.bool false):=M.q
 have cR:W.cell? ⟨w.heap.size,6,none⟩=some (.slice none 0 0):=M.rs
 have c1:W.cell? ⟨w.heap.size,43,none⟩=some (.int .i64 0):=M.ce
 have c2:W.cell? ⟨w.heap.size,44,none⟩=some (.int .i64 0):=M.cl
 have c3:W.cell? ⟨w.heap.size,45,none⟩=some (.int .i64 0):=M.cv
 have cH:W.cell? ⟨w.heap.size,46,none⟩=some (.slice none 0 0):=M.he
 have cN:W.cell? ⟨w.heap.size,47,none⟩=some (.slice none 0 0):=M.ne
 have cT:W.cell? ⟨w.heap.size,117,none⟩=some (.string ⟨#[]⟩):=M.st
 have cG:W.cell? ⟨w.heap.size,118,none⟩=some (.slice none 0 0):=M.sg
 have rV:W.rangeAt w.heap.size 7 x.cells:=M.vt
 have ix:(prog.info? 43).map (·.size)=some x.cells.length:=by rw[hx.len];exact iszV
 have i1:inB 0 1048576=true:=rfl
 have i2:inB 0 64=true:=rfl
 have i3:inB 0 1099511627776=true:=rfl
 have i4:=i3
 have i5:=i3
 have cv:=fun w0=>zdx x w0
 generalize x.may=b at *
 generalize (Ms.plain 2 0 0 x zd).cells=q at *
 generalize x.cells=u at *
 clear hm M hx
 go_enter func86,ntmps86
 go_upto_region 1 with fail
 go_name_world w1 hw1
 obtain rfl:W=w1:=hW.out.symm.trans hw1
 clear hw1 hW
 go_upto_region 5 with(go_at_call 135;refine(zaf _ _ _).mono ?_;rintro e1 w1 ⟨rfl,hx⟩;obtain rfl:=hx.symm;clear hx;(first|rw[i1]|rw[i2]|rw[i3]|rw[i4]|rw[i5]))
 go_wp2_with (refine zM (by rfl) 43 _ rfl _ _ rfl u _ rV underlying43 rfl ix ?_)
 refine(cv _).mono ?_
 rintro e2 w2 ⟨rfl,hb2⟩
 have up:=fun i v (h:W.cell? ⟨w.heap.size,i,none⟩=some v)=>(hb2.cell (p:=⟨w.heap.size,i,none⟩) (show w.heap.size<W.heap.size by omega)).trans h
 replace cK:=up _ _ cK
 replace cQ:=up _ _ cQ
 replace cR:=up _ _ cR
 replace c1:=up _ _ c1
 replace c2:=up _ _ c2
 replace c3:=up _ _ c3
 replace cH:=up _ _ cH
 replace cN:=up _ _ cN
 replace cT:=up _ _ cT
 replace cG:=up _ _ cG
 clear up
 replace hB:=hB.trans (hb2.mono (by omega))
 replace hs:=Nat.lt_of_lt_of_le hs hb2.size
 clear cE cL cV cS rV cv hb2
 cases b
 ·go_wp2
  go_ret
  exact⟨rfl,hB⟩
 ·go_wp2_with fail
  refine(zng false _).mono ?_
  rintro e3 w3 ⟨rfl,hb3⟩
  have up:=fun i v (h:w2.cell? ⟨w.heap.size,i,none⟩=some v)=>(hb3.cell (p:=⟨w.heap.size,i,none⟩) (show w.heap.size<w2.heap.size by omega)).trans h
  replace c1:=up _ _ c1
  replace c2:=up _ _ c2
  replace c3:=up _ _ c3
  replace cH:=up _ _ cH
  replace cN:=up _ _ cN
  replace cT:=up _ _ cT
  replace cG:=up _ _ cG
  clear up
  have hs3:=Nat.lt_of_lt_of_le hs hb3.size
  have hB3:=hB.trans (hb3.mono (by omega))
  clear cQ cR hb3 hB hs
  go_wp2_with fail
  refine(zmK _).mono ?_
  rintro e4 w4 ⟨rfl,hb4⟩
  have up:=fun i v (h:w3.cell? ⟨w.heap.size,i,none⟩=some v)=>(hb4.cell (p:=⟨w.heap.size,i,none⟩) (show w.heap.size<w3.heap.size by omega)).trans h
  replace cN:=up _ _ cN
  replace cT:=up _ _ cT
  replace cG:=up _ _ cG
  clear up
  have hs4:=Nat.lt_of_lt_of_le hs3 hb4.size
  have hB4:=hB3.trans (hb4.mono (by omega))
  clear c1 c2 c3 cH hb4 hB3 hs3
  go_wp2_with fail
  refine(amE0 _ _ (by omega) _).mono ?_
  rintro e5 w5 ⟨rfl,hx⟩
  obtain rfl:=hx.symm
  clear hx cN
  go_wp2_with fail
  refine(zi5 _).mono ?_
  rintro e6 w6 ⟨rfl,hx⟩
  obtain rfl:=hx.symm
  clear hx cT cG
  go_wp2_with fail
  go_ret
  exact⟨rfl,hB4⟩
theorem zlz (q:List Value) (k:Int) (b:Bool) (w:World) (hq:q.length=119) (h0:q[0]? =some (.int .i64 k)) (h1:1≤k) (h8:k≤8)
  (hb:∀w,Calls prog 85 #[.agg q.toArray] w (BareOk w q))
  (hsm:∀w,Calls prog 84 #[.agg q.toArray,.agg q.toArray] w fun e w'=>e=.returned (.bool true)∧Below w.heap.size w w')
  (hf:∀w,Calls prog 86 #[.agg q.toArray] w fun e w'=>e=.returned (.bool b)∧Below w.heap.size w w'):
  Calls prog 57 #[.agg q.toArray] w fun e w'=>e=.returned (.bool b)∧Below w.heap.size w w':=by
 have hB:Below w.heap.size w (w.alloc (.cells q.toArray 52)):=(Below.refl _ _).alloc (Nat.le_refl _) _
 have hs:w.heap.size<(w.alloc (.cells q.toArray 52)).heap.size:=by simp
 have hA:(w.alloc (.cells q.toArray 52)).rangeAt w.heap.size 0 q:=by simpa using zC w q.toArray 52
 have c0:=hA 0 _ h0
 simp only[Nat.add_zero]at c0
 have iq:(prog.info? 52).map (·.size)=some q.length:=by rw[hq];exact iszM
 clear hq h0
 go_enter func57,ntmps57
 go_upto_region 2 with fail
 obtain⟨w8,hw8⟩:∃w8,(w.alloc (.cells q.toArray 52)).drew=w8:=⟨_,rfl⟩
 have hB8:Below w.heap.size w w8:=by rw[←hw8];exact hB.drew
 have hA8:w8.rangeAt w.heap.size 0 q:=by rw[←hw8];exact(World.rangeAt_drew _ _ _ _).2 hA
 have hs8:w.heap.size<w8.heap.size:=by rw[←hw8];exact hs
 refine zw (S:=(Below w8.heap.size w8)) 12 rfl (by kernel_rfl) ?_
 rw[hw8]
 clear hw8 hA hB hs c0
 have hS:(Below w8.heap.size w8) w8:=Below.refl _ _
 refine hs_a 0 12 hS ?_
 refine hs_a 1 13 hS ?_
 refine hs_v 2 14 (.agg q.toArray) rfl (fun w' hw=>zu rfl rfl (run_loadVar_mid (P:=prog) w' w.heap.size 0 52 q _ (za hA8 hw hs8) underlying52 rfl iq)) hS ?_
 refine hs_v 3 15 (.agg q.toArray) rfl (fun w' hw=>zu rfl rfl (run_loadVar_mid (P:=prog) w' w.heap.size 0 52 q _ (za hA8 hw hs8) underlying52 rfl iq)) hS ?_
 refine hs_c 4 16 ?_
 refine(hb _).mono ?_
 rintro e' wn1 ⟨rfl,hb1⟩
 have hS:(Below w8.heap.size w8) wn1:=hS.trans (hb1.mono hS.size)
 refine⟨_,rfl,hS,?_⟩
 simp only[nz]
 refine hs_c 5 17 ?_
 refine(hsm _).mono ?_
 rintro e' wn2 ⟨rfl,hb2⟩
 have hS:(Below w8.heap.size w8) wn2:=hS.trans (hb2.mono hS.size)
 refine⟨_,rfl,hS,?_⟩
 simp only[nz]
 refine hs_a 6 18 hS ?_
 refine hs_a 7 19 hS ?_
 refine hs_v 8 20 (.agg q.toArray) rfl (fun w' hw=>zu rfl rfl (run_loadVar_mid (P:=prog) w' w.heap.size 0 52 q _ (za hA8 hw hs8) underlying52 rfl iq)) hS ?_
 refine hs_c 9 21 ?_
 refine(hf _).mono ?_
 rintro e' wn3 ⟨rfl,hb3⟩
 have hS:(Below w8.heap.size w8) wn3:=hS.trans (hb3.mono hS.size)
 refine⟨_,rfl,hS,?_⟩
 simp only[nz]
 refine hs_a 10 22 hS ?_
 refine hs_a 11 2 hS ?_
 refine zv (by kernel_rfl) ?_
 go_wp2
 go_ret
 exact⟨rfl,hB8.trans (hS.mono (by omega))⟩
theorem zkK (w:World):(convert 59 9 (.slice none 0 0)).run prog w=.ok (.string (strOf [])) w:=by kernel_rfl
theorem zgG {w:World} {B:Nat} {v:Value} {zs:List Int} (h:Mine w B v zs):(convert 59 9 v).run prog w=.ok (.string (strOf zs)) w:=by
 rcases za7 h.1 with⟨rfl,h0,_⟩|⟨g,cap,rfl,_,_,_,_,hr⟩
 ·have:zs=[]:=List.eq_nil_of_length_eq_zero h0
  subst this
  exact zkK w
 ·exact zfR hr
theorem zeX (w:World):WrAt (w.alloc (.cells #[.slice none 0 0,.bool false] 116)) w.heap.size (.slice none 0 0) [] false where
 lt:=by simp
 c0:=by have:=zC w #[.slice none 0 0,.bool false] 116 0 _ rfl;exact this
 c1:=by have:=zC w #[.slice none 0 0,.bool false] 116 1 _ rfl;exact this
 th:=zE w #[.slice none 0 0,.bool false] 116
 me:=⟨World.ownsRow_nil _ _ _ _,by simp⟩
def encV (b:Bool) (zs:List Int):Value:=if b then .tuple #[.string (strOf zs),.int .i64 0]else .tuple #[.string ⟨#[]⟩,.int .i64 130]
def Writes (q:List Value) (zs:List Int):Prop:=∀(X:Nat) (w:World),WrAt w X (.slice none 0 0) [] false→Calls prog 58 #[.pointer (some ⟨X,0,none⟩),.agg q.toArray] w fun e w'=>∃v',e=.returned (.tuple #[])∧WrAt w' X v' zs false∧Off (WrF X (.slice none 0 0)) w w'∧RowOn w (.slice none 0 0) v'
theorem enc0 (q:List Value) (b:Bool) (zs:List Int) (w:World) (hq:q.length=119)
  (hg:∀w,Calls prog 57 #[.agg q.toArray] w fun e w'=>e=.returned (.bool b)∧Below w.heap.size w w') (hw:b=true→Writes q zs):
  Calls prog 22 #[.agg q.toArray] w fun e w'=>e=.returned (encV b zs)∧Below w.heap.size w w':=by
 have hB:Below w.heap.size w (w.alloc (.cells q.toArray 52)):=(Below.refl _ _).alloc (Nat.le_refl _) _
 have hs:w.heap.size<(w.alloc (.cells q.toArray 52)).heap.size:=by simp
 have hA:(w.alloc (.cells q.toArray 52)).rangeAt w.heap.size 0 q:=by simpa using zC w q.toArray 52
 have iq:(prog.info? 52).map (·.size)=some q.length:=by rw[hq];exact iszM
 clear hq
 cases b
 ·show Calls prog 22 #[.agg q.toArray] w fun e w'=>e=.returned (.tuple #[.string ⟨#[]⟩,.int .i64 130])∧Below w.heap.size w w'
  clear hw
  go_enter func22,ntmps22
  go_upto_region 1 with fail
  go_name_world w1 hw1
  rw[show w.alloc (.cells q.toArray 52)=w1 from hw1]at hB hs hA
  clear hw1
  go_wp2_with (refine wpList_load_mid rfl 52 _ rfl _ _ rfl q _ hA underlying52 rfl iq ?_)
  refine(hg _).mono ?_
  rintro e2 w2 ⟨rfl,hb2⟩
  have hB2:=hB.trans (hb2.mono (by omega))
  clear hA hg hB hb2
  go_wp2
  go_ret2
  exact⟨rfl,hB2⟩
 ·show Calls prog 22 #[.agg q.toArray] w fun e w'=>e=.returned (.tuple #[.string (strOf zs),.int .i64 0])∧Below w.heap.size w w'
  replace hw:=hw rfl
  obtain⟨sz,hsz⟩:∃sz,Hid (strOf zs=sz):=⟨_,hide rfl⟩
  rw[hsz.out]
  go_enter func22,ntmps22
  go_upto_region 1 with fail
  go_name_world w1 hw1
  rw[show w.alloc (.cells q.toArray 52)=w1 from hw1]at hB hs hA
  clear hw1
  go_wp2_with (refine wpList_load_mid rfl 52 _ rfl _ _ rfl q _ hA underlying52 rfl iq ?_)
  refine(hg _).mono ?_
  rintro e2 w2 ⟨rfl,hb2⟩
  have hB2:=hB.trans (hb2.mono (by omega))
  have hA2:=za hA hb2 hs
  have hs2:=Nat.lt_of_lt_of_le hs hb2.size
  clear hA hg hB hb2 hs
  go_upto_region 4 with fail
  have hN:=zeX w2
  have hB3:Below w2.heap.size w2 (w2.alloc (.cells #[.slice none 0 0,.bool false] 116)):=(Below.refl _ _).alloc (Nat.le_refl _) _
  go_name_world w3 hw3
  rw[show w2.alloc (.cells #[.slice none 0 0,.bool false] 116)=w3 from hw3]at hN hB3
  clear hw3
  have hA3:=za hA2 hB3 hs2
  have hB4:=hB2.trans (hB3.mono (by omega))
  have cw:=hw w2.heap.size w3 hN
  have hs3:=hN.lt
  clear hA2 hB2 hB3 hw hN
  go_wp2_with (refine wpList_load_mid rfl 52 _ rfl _ _ rfl q _ hA3 underlying52 rfl iq ?_)
  refine cw.mono ?_
  rintro e5 w5 ⟨v5,rfl,hW5,hO5,_⟩
  have c0:=hW5.c0
  have c1:=hW5.c1
  have hcs:=zgG hW5.me
  have hB5:=hB4.trans (hO5.below (n:=w.heap.size) (by omega) (fun b hb hf=>by
   rcases hf with hf|hf
   ·omega
   ·cases hf))
  obtain⟨a5,cap5,rfl⟩:∃a cap,v5=.slice a zs.length cap:=by
   rcases za7 hW5.me.1 with⟨rfl,h0,_⟩|⟨g,cap,rfl,_⟩
   ·exact⟨none,0,by rw[h0]⟩
   ·exact⟨_,cap,rfl⟩
  rw[hsz.out]at hcs
  clear hsz cw hW5 hO5 hA3 hB4
  go_wp2
  go_ret2
  exact⟨rfl,hB5⟩
theorem zbK {zs bs:List Int} (h:zs.length+bs.length≤4194304):wrS (zs,false) bs=(zs++bs,false):=by
 have e:fullB false bs.length zs=false:=by
  unfold fullB
  rw[Bool.false_or]
  exact decide_eq_false (by omega)
 unfold wrS
 simp only[e,zbL]
theorem zap {n:Int} (h:n≤9223372036854775807):(putL n).length≤9:=zab n (by omega)
theorem wrN1 {zs:List Int} {a:Int} (ha:a≤9223372036854775807) (hz:zs.length≤1000):wrN (zs,false) [a]=(zs++putL a,false):=by
 have:=zap ha
 show wrS (zs,false) (putL a)=_
 rw[zbK (by omega)]
theorem wrN4 {zs:List Int} {a b c d:Int} (ha:a≤9223372036854775807) (hb:b≤9223372036854775807) (hc:c≤9223372036854775807) (hd:d≤9223372036854775807) (hz:zs.length≤1000):wrN (zs,false) [a,b,c,d]=(zs++putL a++putL b++putL c++putL d,false):=by
 have h1:=zap ha
 have h2:=zap hb
 have h3:=zap hc
 have h4:=zap hd
 show wrS (wrS (wrS (wrS (zs,false) (putL a)) (putL b)) (putL c)) (putL d)=_
 rw[zbK (by omega),zbK (by rw[List.length_append];omega),zbK (by simp only[List.length_append];omega),zbK (by simp only[List.length_append];omega)]
def voteL (x:Vt):List Int:=putL 2++putL x.k++putL x.e++putL x.v++putL x.s++x.d
theorem zib {x:Vt} (hx:x.ok):Writes (Ms.plain 2 0 0 x zd).cells (voteL x):=fun X w h=>by
 have:=zim X (.slice none 0 0) ([],false) (Ms.plain 2 0 0 x zd) w (zch hx) rfl h (by simp)
 have e:wrS (wrN (wrN ([],false) [2]) [x.k,x.e,x.v,x.s]) x.d=(voteL x,false):=by
  have p:=@zap 2 (by omega)
  have h1:=zap hx.k
  have h2:=zap hx.e
  have h3:=zap hx.v
  have h4:=zap hx.s
  have h5:=hx.dl
  rw[wrN1 (by omega) (by simp),List.nil_append,wrN4 hx.k hx.e hx.v hx.s (by omega),zbK (by simp only[List.length_append];omega)]
  rfl
 show Calls _ _ _ w _
 have e1:(wrS (wrN (wrN ([],false) [2]) [(Ms.plain 2 0 0 x zd).vt.k,(Ms.plain 2 0 0 x zd).vt.e,(Ms.plain 2 0 0 x zd).vt.v,(Ms.plain 2 0 0 x zd).vt.s]) (Ms.plain 2 0 0 x zd).vt.d)=(voteL x,false):=e
 rw[e1]at this
 exact this
theorem zly (x:Vt) (hx:x.ok) (w:World):Calls prog 57 #[.agg (Ms.plain 2 0 0 x zd).cells.toArray] w fun e w'=>e=.returned (.bool x.may)∧Below w.heap.size w w':=
 zlz _ 2 x.may w (zch hx).len rfl (by omega) (by omega) (fun w=>bare2 x hx w) (fun w=>zkO 2 0 0 x zd hx zt zx w) (fun w=>zlO x hx w)
theorem enc2 (x:Vt) (hx:x.ok) (w:World):Calls prog 22 #[.agg (Ms.plain 2 0 0 x zd).cells.toArray] w fun e w'=>e=.returned (encV x.may (voteL x))∧Below w.heap.size w w':=
 enc0 _ _ _ w (zch hx).len (fun w=>zly x hx w) (fun _=>zib hx)
def optS (b:Bool) (zs:List Int):ByteArray:=if b then strOf zs else⟨#[]⟩
theorem zmk (b:Bool) (zs:List Int):∃n:Int,encV b zs=.tuple #[.string (optS b zs),.int .i64 n]:=by
 cases b
 ·exact⟨130,rfl⟩
 ·exact⟨0,rfl⟩
theorem zmU (q:List Value) (b:Bool) (zs:List Int) (w:World) (hq:q.length=119) (he:∀w,Calls prog 22 #[.agg q.toArray] w fun e w'=>e=.returned (encV b zs)∧Below w.heap.size w w'):
  Calls prog 160 #[.agg q.toArray] w fun e w'=>e=.returned (.string (optS b zs))∧Below w.heap.size w w':=by
 have hB:Below w.heap.size w (w.alloc (.cells q.toArray 52)):=(Below.refl _ _).alloc (Nat.le_refl _) _
 have hA:(w.alloc (.cells q.toArray 52)).rangeAt w.heap.size 0 q:=by simpa using zC w q.toArray 52
 have iq:(prog.info? 52).map (·.size)=some q.length:=by rw[hq];exact iszM
 obtain⟨n,hn⟩:=zmk b zs
 rw[hn]at he
 clear hq hn
 generalize optS b zs=sz at *
 go_enter func160,ntmps160
 go_upto_region 1 with fail
 go_name_world w1 hw1
 rw[show w.alloc (.cells q.toArray 52)=w1 from hw1]at hB hA
 clear hw1
 go_wp2_with (refine wpList_load_mid rfl 52 _ rfl _ _ rfl q _ hA underlying52 rfl iq ?_)
 refine(he _).mono ?_
 rintro e2 w2 ⟨rfl,hb2⟩
 have hB2:=hB.trans (hb2.mono hB.size)
 clear hA he hB hb2
 go_wp2
 go_ret
 exact⟨rfl,hB2⟩
theorem ziB (x:Vt) (hx:x.ok) (w:World):Calls prog 127 #[.agg x.cells.toArray] w fun e w'=>e=.returned (.string (optS x.may (voteL x)))∧Below w.heap.size w w':=by
 have hB:Below w.heap.size w (w.alloc (.cells x.cells.toArray 43)):=(Below.refl _ _).alloc (Nat.le_refl _) _
 have hA:=Vt.box w x
 have ix:(prog.info? 43).map (·.size)=some x.cells.length:=by rw[hx.len];exact iszV
 have hb:=zmX x hx
 have cb:=fun w=>zmU _ _ _ w (zch hx).len (fun w=>enc2 x hx w)
 clear hx
 generalize optS x.may (voteL x)=sz at *
 generalize (Ms.plain 2 0 0 x zd).cells=q at *
 generalize x.cells=u at *
 go_enter func127,ntmps127
 go_upto_region 1 with fail
 go_name_world w1 hw1
 rw[show w.alloc (.cells u.toArray 43)=w1 from hw1]at hB hA
 clear hw1
 go_wp2_with (first|(refine wpList_load_mid rfl 43 _ rfl _ _ rfl u _ hA underlying43 rfl ix ?_)|(refine zaZ rfl 52 [(0,.const (.int .i64 2)),(6,.tmp 3)] rfl [(0,.int .i64 2),(6,.agg u.toArray)] _ rfl (hb _) ?_))
 refine(cb _).mono ?_
 rintro e2 w2 ⟨rfl,hb2⟩
 have hB2:=hB.trans (hb2.mono hB.size)
 clear hA cb hB hb2
 go_wp2
 go_ret
 exact⟨rfl,hB2⟩
theorem zig {P:Program} {ops:Array Oper} {rest:List Oper} {op:Oper} {a:Act} {w:World} {Q:Exit→Act→World→Prop} (hgd:op.guard=none) (ty:TypeId) (x y:Operand) (ho:op.op=.store ty x y)
  (b o:Nat) (v:Value) (hx:a.eval x=.pointer (some ⟨b,o,none⟩)) (hy:a.eval y=v)
  (ht:w.there b o 1) (hi:(P.info? ty).map (·.size)=some 1) (hv:v.cells=#[v]) (h1:v.oneCell'=true)
  (h:wpList P ops Q rest (a.put op.dst undef) (w.setCells b o [v])):wpList P ops Q (op::rest) a w:=
 wpList_plain hgd fun _ hK=>by
  unfold Oper.wp execOp
  simp only[ho,hx,hy,Instr.storeAt,Instr.sureAddr,Sem.run_bind,Sem.run_pure,Result.andThen_ok,zaS w b o ty v ht hi hv h1]
  exact hK _ _ h
theorem ziA {x:Vt} (hx:x.ok):(voteL x).length≤1000:=by
 have p:=@zap 2 (by omega)
 have h1:=zap hx.k
 have h2:=zap hx.e
 have h3:=zap hx.v
 have h4:=zap hx.s
 have h5:=hx.dl
 simp only[voteL,List.length_append]
 omega
theorem zfS {w:World} {a:Option Addr} {zs:List Int} (h:RowAt w a zs) (cap:Nat):(convert 59 9 (.slice a zs.length cap)).run prog w=.ok (.string (strOf zs)) w:=by
 rcases h.2.2 with rfl|⟨b,off,rfl,_,hr⟩
 ·rw[List.length_nil,run_convert_bytes_string w 59 9 5 a 0 cap underlying59 underlying5 underlying9]
  cases a<;>rfl
 ·exact zfR hr
def RdE (w:World) (R:Nat) (e:Int):Prop:=
 R<w.heap.size∧(∃a n c,w.cell? ⟨R,0,none⟩=some (.slice a n c))∧w.cell? ⟨R,1,none⟩=some (.bool true)∧w.cell? ⟨R,2,none⟩=some (.int .i64 e)∧
 w.frozen? ⟨R,0,none⟩=false∧w.frozen? ⟨R,1,none⟩=false∧w.frozen? ⟨R,2,none⟩=false
def Rest (w:World) (R:Nat) (rest:List Int):Prop:=
 ∃a cap,w.cell? ⟨R,0,none⟩=some (.slice a rest.length cap)∧rest.length≤cap∧cap≤maxLen∧RowAt w a rest∧∀x,a=some x→x.block<R
def St (w:World) (R:Nat) (rest:List Int) (e:Int):Prop:=RdE w R e∧(e=0→Rest w R rest)
theorem RdE.set0 {w:World} {R:Nat} {e:Int} (h:RdE w R e) (a:Option Addr) (n c:Nat):RdE (w.setCell ⟨R,0,none⟩ (.slice a n c)) R e:=by
 obtain⟨hR,⟨a',n',c',h0⟩,h1,h2,f0,f1,f2⟩:=h
 refine⟨by simpa [World.setCell]using hR,⟨a,n,c,World.cell?_setCell_same _ _ _ h0⟩,(World.cell?_setCell_other _ _ _ _ (by simp)).trans h1,(World.cell?_setCell_other _ _ _ _ (by simp)).trans h2,
  (World.frozen?_setCell _ _ _ _).trans f0,(World.frozen?_setCell _ _ _ _).trans f1,(World.frozen?_setCell _ _ _ _).trans f2⟩
theorem RdE.set2 {w:World} {R:Nat} {e:Int} (h:RdE w R e) (e':Int):RdE (w.setCell ⟨R,2,none⟩ (.int .i64 e')) R e':=by
 obtain⟨hR,⟨a',n',c',h0⟩,h1,h2,f0,f1,f2⟩:=h
 refine⟨by simpa [World.setCell]using hR,⟨a',n',c',(World.cell?_setCell_other _ _ _ _ (by simp)).trans h0⟩,(World.cell?_setCell_other _ _ _ _ (by simp)).trans h1,World.cell?_setCell_same _ _ _ h2,
  (World.frozen?_setCell _ _ _ _).trans f0,(World.frozen?_setCell _ _ _ _).trans f1,(World.frozen?_setCell _ _ _ _).trans f2⟩
theorem RowAt.get {w:World} {a:Option Addr} {zs:List Int} (h:RowAt w a zs) (k:Nat) (hk:k<zs.length):∃b off,a=some ⟨b,off,none⟩∧b<w.heap.size∧w.cell? ⟨b,off+k,none⟩=some (.int .u8 (zs.getD k 0))∧0≤zs.getD k 0∧zs.getD k 0<256:=by
 rcases h.2.2 with rfl|⟨b,off,rfl,hb,hr⟩
 ·simp at hk
 ·refine⟨b,off,rfl,hb,get8 hr hk,?_⟩
  rw[List.getD_eq_getElem?_getD,List.getElem?_eq_getElem hk]
  exact h.2.1 _ (List.getElem_mem hk)
theorem zey {a:Option Addr} {R cap n:Nat} (h:∀x,a=some x→x.block<R):∀x,cutA a cap n=some x→x.block<R:=by
  intro x hx
  unfold cutA at hx
  split at hx
  · exact h x hx
  · cases a with
    |none=>simp at hx
    |some y=>
      simp only[Option.map_some,Option.some.injEq]at hx
      subst hx
      have:=h y rfl
      unfold Addr.add
      split<;>exact this
theorem zgI {a:Option Addr} {R:Nat} (h:∀x,a=some x→x.block<R):∀x,a=some x→x.block≠R:=fun x hx=>Nat.ne_of_lt (h x hx)
theorem zaw (R:Nat) (e:Int) (w:World) (h:RdE w R e):
  Calls prog 70 #[.pointer (some ⟨R,0,none⟩)] w fun en w'=>en=.returned (.int .i64 e)∧w'=w:=by
 obtain⟨hR,⟨a,n,c,h0⟩,h1,h2,f0,f1,f2⟩:=h
 go_enter func70,ntmps70
 go_wp2
 go_ret
 exact⟨rfl,rfl⟩
theorem zbC (R:Nat) (a:Option Addr) (n c:Nat) (w:World) (h0:w.cell? ⟨R,0,none⟩=some (.slice a n c)):
  Calls prog 74 #[.pointer (some ⟨R,0,none⟩)] w fun en w'=>en=.returned (.int .i64 (n:Int))∧w'=w:=by
 go_enter func74,ntmps74
 go_wp2
 go_ret
 exact⟨rfl,rfl⟩
theorem zdJ (R:Nat) (a:Option Addr) (n len c:Nat) (w:World) (h0:w.cell? ⟨R,0,none⟩=some (.slice a len c)) (f0:w.frozen? ⟨R,0,none⟩=false) (hn:n≤len) (hc:len≤c) (hm:c≤maxLen):
  Calls prog 124 #[.pointer (some ⟨R,0,none⟩),.int .i64 (n:Int)] w fun en w'=>en=.returned (.slice a n c)∧w'=w.setCell ⟨R,0,none⟩ (.slice (cutA a c n) (len - n) (c - n)):=by
 unfold maxLen at hm
 by_cases h:c=n
 ·subst h
  obtain rfl:len=c:=by omega
  go_enter func124,ntmps124
  go_wp2
  go_ret
  exact⟨rfl,by simp[cutA]⟩
 ·go_enter func124,ntmps124
  go_wp2
  go_ret
  exact⟨rfl,by simp[cutA,h]⟩
theorem zcq (R:Nat) (e0 e:Int) (w:World) (h:RdE w R e0):
  Calls prog 72 #[.pointer (some ⟨R,0,none⟩),.int .i64 e] w fun en w'=>en=.returned (.tuple #[])∧RdE w' R e∧w.grownBy w' (some R):=by
 have hE:=(h.set2 e).set0 none 0 0
 have hg:=zJ (zaD w R 2 (.int .i64 e)) (zaD (w.setCell ⟨R,2,none⟩ (.int .i64 e)) R 0 (.slice none 0 0))
 obtain⟨hR,⟨a,n,c,h0⟩,h1,h2,f0,f1,f2⟩:=h
 go_enter func72,ntmps72
 go_wp2
 go_end0
 exact⟨rfl,hE,hg⟩
theorem zb4 (l:List Int) (h:∀z∈l,0≤z∧z<256):0≤val l∧val l<256^l.length:=by
  have:∀k,k≤l.length→0≤val (l.take k)∧val (l.take k)<256^k:=by
    intro k
    induction k with
    |zero=>intro _;simp[val]
    |succ k ih=>
      intro hk
      have hlt:k<l.length:=by omega
      obtain⟨i1,i2⟩:=ih (by omega)
      have hz:=h l[k] (List.getElem_mem hlt)
      rw[List.take_succ_eq_append_getElem hlt,zdz,Int.pow_succ]
      omega
  have:=this l.length (Nat.le_refl _)
  rwa [List.take_length]at this
theorem zfd (l:List Int) (k:Nat) (h:k<l.length):val (l.take (k+1))=val (l.take k)*256+l.getD k 0:=by
 rw[List.take_succ_eq_append_getElem h,zdz,List.getD_eq_getElem?_getD,List.getElem?_eq_getElem h];rfl
theorem zkw (x d:Int) (h0:0≤x) (h1:x<72057594037927936) (h2:0≤d) (h3:d<256):bits .or .u64 (x*256) d=x*256+d:=by
 obtain⟨m,rfl⟩:=Int.eq_ofNat_of_zero_le h0
 obtain⟨q,rfl⟩:=Int.eq_ofNat_of_zero_le h2
 have e:((m:Int)*256)=((m*256:Nat):Int):=by omega
 rw[e,u64_or_nat _ _ (by omega) (by omega),nat_join 8 _ _ (by omega) (by omega)]
 omega
def valR (ds:List Int):Int ×Int:=if ds.head? =some 0∨9223372036854775807<val ds then(0,11)else(val ds,0)
theorem ziC (a:Option Addr) (cap:Nat) (ds:List Int) (w:World) (h:RowAt w a ds) (hl:ds.length≤8):
    Calls prog 125 #[.slice a ds.length cap] w fun en w'=>en=.returned (.tuple #[.int .i64 (valR ds).1,.int .i64 (valR ds).2])∧w'=w:=by
  by_cases hh:ds.head? =some 0
  · have HV:Hid (valR ds=(0,11)):=by show _=_;simp[valR,hh]
    obtain⟨tl,rfl⟩:∃tl,ds=0::tl:=by
      cases ds with
      |nil=>simp at hh
      |cons x tl=>simp at hh;exact⟨tl,by rw[hh]⟩
    obtain⟨b,off,rfl,hb,hc,_⟩:=h.get 0 (by simp)
    have hc':w.cell? ⟨b,off,none⟩=some (.int .u8 0):=by simpa using hc
    have hp:(0:Int)<((0::tl:List Int).length:Int):=by simp
    generalize (0::tl:List Int)=ds at *
    go_enter func125,ntmps125
    go_wp2
    go_ret2
    rw[HV.out]
    exact⟨rfl,rfl⟩
  · have hz:=h.2.1
    have hstart:ds=[]∨∃b off z,a=some ⟨b,off,none⟩∧w.cell? ⟨b,off,none⟩=some (.int .u8 z)∧(z==0)=false∧0<ds.length:=by
      cases ds with
      |nil=>exact Or.inl rfl
      |cons x tl=>
        obtain⟨b,off,rfl,hb,hc,_⟩:=h.get 0 (by simp)
        exact Or.inr ⟨b,off,x,rfl,by simpa using hc,by simpa using hh,by simp⟩
    have hval:=zb4 ds hz
    rcases hstart with rfl|⟨b,off,z0,rfl,hc0,hne,hpos⟩
    · go_enter func125,ntmps125
      go_wp2
      refine wp_loop_rounds 1 ?_
      rw[rounds_succ]
      go_wp2
      go_ret2
      exact⟨rfl,rfl⟩
    · have hp:(0:Int)<(ds.length:Int):=by omega
      have hc:∀j,j<ds.length→w.cell? ⟨b,off+j,none⟩=some (.int .u8 (ds.getD j 0)):=by
        obtain⟨_,_,hd|⟨b',off',hx,_,hc⟩⟩:=h
        · rw[hd]at hpos;simp at hpos
        · simp only[Option.some.injEq,Addr.mk.injEq]at hx
          obtain⟨rfl,rfl,_⟩:=hx
          exact fun j hj=>get8 hc hj
      have HC:Hid (∀j,j<ds.length→w.cell? ⟨b,off+j,none⟩=some (.int .u8 (ds.getD j 0))):=hc
      have HR:Hid (valR ds=if 9223372036854775807<val ds then(0,11)else(val ds,0)):=by show _=_;simp[valR,hh]
      clear hc h hh
      go_enter func125,ntmps125
      go_wp2
      go_loop [4,17] (fun n i=>∃k:Nat,k≤ds.length∧i=.int .i64 k∧n=.int .u64 (val (ds.take k))) (fun _ i=>ds.length - (intOf i).toNat)
      case atStart=>exact⟨0,by omega,rfl,rfl⟩
      case round=>
        obtain⟨k,hk,rfl,rfl⟩:=hrel
        by_cases hlt:k<ds.length
        · obtain ⟨z, hcx, hz0, hz1, HV⟩ : ∃ z, w.cell? ⟨b, off + k, none⟩ = some (.int .u8 z) ∧ 0 ≤ z ∧ z < 256 ∧ Hid (val (ds.take (k + 1)) = val (ds.take k) * 256 + z) := by
            refine⟨ds.getD k 0,HC.out k hlt,?_,?_,zfd ds k hlt⟩<;>rw[List.getD_eq_getElem?_getD,List.getElem?_eq_getElem hlt]
            · exact(hz _ (List.getElem_mem hlt)).1
            · exact(hz _ (List.getElem_mem hlt)).2
          have hb7:0≤val (ds.take k)∧val (ds.take k)<72057594037927936:=by
            have:=zb4 (ds.take k) (fun z hz'=>hz z (List.mem_of_mem_take hz'))
            rw[List.length_take_of_le (by omega)]at this
            have h7:256^k≤72057594037927936:=Nat.le_trans (Nat.pow_le_pow_right (by omega) (show k≤7 by omega)) (by decide)
            have e7:((256^k:Nat):Int)=(256:Int)^k:=Int.natCast_pow 256 k
            rw[←e7]at this
            omega
          obtain⟨hx0,hx1⟩:=hb7
          have ej:=zkw (val (ds.take k)) z hx0 hx1 hz0 hz1
          generalize val (ds.take k)=X at *
          go_wp2
          go_round
          case rel=>exact⟨k+1,by omega,by go_num,by rw[HV.out]⟩
          case measure=>simp[intOf];omega
        · obtain rfl:k=ds.length:=by omega
          rw[List.take_length]
          by_cases hbig:9223372036854775807<val ds
          · go_wp2
            go_ret2
            rw[HR.out,if_pos hbig]
            exact⟨rfl,rfl⟩
          · go_wp2
            go_ret2
            rw[HR.out,if_neg (by omega)]
            exact⟨rfl,rfl⟩
def numR:List Int→Int ×Nat ×Int
  |[]=>(0,0,10)
  | k :: tl => if 8 < k then (0, 0, 11) else if (tl.length : Int) < k then (0, 0, 10) else
      if(valR (tl.take k.toNat)).2=0 then((valR (tl.take k.toNat)).1,1+k.toNat,0)else(0,0,(valR (tl.take k.toNat)).2)
theorem ziE (ds:List Int) (h:(valR ds).2≠0):valR ds=(0,11):=by
 unfold valR at h ⊢
 split
 ·rfl
 ·rename_i hh;rw[if_neg hh]at h;exact absurd rfl h
theorem zkC (R:Nat) (e0:Int) (rest:List Int) (w:World) (hE:RdE w R e0) (hR:Rest w R rest):
  Calls prog 71 #[.pointer (some ⟨R,0,none⟩)] w fun en w'=>en=.returned (.tuple #[.int .i64 (numR rest).1,.int .i64 (numR rest).2.2])∧RdE w' R e0∧w.grownBy w' (some R)∧((numR rest).2.2=0→Rest w' R (rest.drop (numR rest).2.1)):=by
 obtain⟨a,cap,h0,hc,hm,hrow,hlt⟩:=hR
 have hne:=zgI hlt
 have f0:=hE.2.2.2.2.1
 cases rest with
 |nil=>
  have h0':w.cell? ⟨R,0,none⟩=some (.slice a 0 cap):=h0
  go_enter func71,ntmps71
  go_wp2_with fail
  refine(zbC R a 0 cap w h0').mono ?_
  rintro e w1 ⟨rfl,rfl⟩
  go_wp2
  go_ret2
  exact⟨rfl,hE,zbp _ _,fun h=>by cases h⟩
 |cons k tl=>
  obtain⟨b,off,rfl,hb,hcb,hk0,hk1⟩:=hrow.get 0 (by simp)
  have hk:(k::tl).getD 0 0=k:=rfl
  rw[hk]at hcb hk0 hk1
  have hbR:b≠R:=hne _ rfl
  have hcb1:(w.setCell ⟨R,0,none⟩ (.slice (cutA (some ⟨b,off,none⟩) cap 1) ((k::tl).length - 1) (cap - 1))).cell? ⟨b,off,none⟩=some (.int .u8 k):=
   (World.cell?_setCell_other _ _ _ _ (by intro hx;injection hx with hx1;exact hbR hx1.symm)).trans (by simpa using hcb)
  have hE1:=hE.set0 (cutA (some ⟨b,off,none⟩) cap 1) ((k::tl).length - 1) (cap - 1)
  have hg1:=zaD w R 0 (.slice (cutA (some ⟨b,off,none⟩) cap 1) ((k::tl).length - 1) (cap - 1))
  have hr1:=(hrow.drop 1 cap (by simp) hc).gb hg1 (.inr (zb0 hne))
  have h01:(w.setCell ⟨R,0,none⟩ (.slice (cutA (some ⟨b,off,none⟩) cap 1) ((k::tl).length - 1) (cap - 1))).cell? ⟨R,0,none⟩=some (.slice (cutA (some ⟨b,off,none⟩) cap 1) ((k::tl).length - 1) (cap - 1)):=World.cell?_setCell_same _ _ _ h0
  have hlen:(k::tl).length - 1=tl.length:=by simp
  rw[hlen]at hE1 hg1 hr1 h01 hcb1
  generalize hW1:w.setCell ⟨R,0,none⟩ (.slice (cutA (some ⟨b,off,none⟩) cap 1) tl.length (cap - 1))=W1 at *
  have c1:=zdJ R (some ⟨b,off,none⟩) 1 (k::tl).length cap w h0 f0 (by simp) hc hm
  rw[hlen,hW1]at c1
  have HW1:Hid (w.setCell ⟨R,0,none⟩ (.slice (cutA (some ⟨b,off,none⟩) cap 1) tl.length (cap - 1))=W1):=hW1
  clear hW1
  have hpos:(((k::tl).length:Int)==0)=false:=by simp;omega
  have hnm:=zb0 (cap:=cap) (n:=1) hne
  have hltm:=zey (cap:=cap) (n:=1) hlt
  generalize hA1:cutA (some ⟨b,off,none⟩) cap 1=A1 at *
  clear hA1
  have cl:=zbC R (some ⟨b,off,none⟩) (k::tl).length cap w h0
  go_enter func71,ntmps71
  go_wp2_with fail
  refine cl.mono ?_
  rintro e w1 ⟨rfl,rfl⟩
  clear cl
  go_wp2_with fail
  refine c1.mono ?_
  rintro e w2 ⟨rfl,rfl⟩
  clear c1
  by_cases hk8:8<k
  ·have HN:Hid (numR (k::tl)=(0,0,11)):=by show _=_;simp[numR,hk8]
   go_wp2_with fail
   go_ret2
   rw[HN.out]
   exact⟨rfl,hE1,hg1,fun h=>by cases h⟩
  ·by_cases hkl:(tl.length:Int)<k
   ·have HN:Hid (numR (k::tl)=(0,0,10)):=by show _=_;simp[numR,hk8,hkl]
    go_wp2_with fail
    refine(zbC R A1 tl.length (cap - 1) w2 h01).mono ?_
    rintro e w3 ⟨rfl,rfl⟩
    go_wp2_with fail
    go_ret2
    rw[HN.out]
    exact⟨rfl,hE1,hg1,fun h=>by cases h⟩
   ·obtain⟨q,hqk⟩:∃q:Nat,k.toNat=q:=⟨_,rfl⟩
    have hkq:(q:Int)=k:=by omega
    have hq:q≤tl.length:=by omega
    have hcl:tl.length≤cap - 1:=by simp at hc;omega
    have c2:=zdJ R A1 q tl.length (cap - 1) w2 h01 hE1.2.2.2.2.1 hq hcl (by omega)
    rw[hkq]at c2
    have hE2:=hE1.set0 (cutA A1 (cap - 1) q) (tl.length - q) (cap - 1 - q)
    have hg2:=zaD w2 R 0 (.slice (cutA A1 (cap - 1) q) (tl.length - q) (cap - 1 - q))
    have hr1':RowAt w2 A1 tl:=by simpa using hr1
    have hr2:=(hr1'.take q).gb hg2 (.inr hnm)
    have hr3:=(hr1'.drop q (cap - 1) hq hcl)
    have h02:(w2.setCell ⟨R,0,none⟩ (.slice (cutA A1 (cap - 1) q) (tl.length - q) (cap - 1 - q))).cell? ⟨R,0,none⟩=some (.slice (cutA A1 (cap - 1) q) (tl.length - q) (cap - 1 - q)):=World.cell?_setCell_same _ _ _ h01
    have hRest:Rest (w2.setCell ⟨R,0,none⟩ (.slice (cutA A1 (cap - 1) q) (tl.length - q) (cap - 1 - q))) R (tl.drop q):=by
     refine⟨cutA A1 (cap - 1) q,cap - 1 - q,by rw[List.length_drop];exact h02,by rw[List.length_drop];omega,by omega,?_,?_⟩
     ·exact hr3.gb hg2 (.inr (zb0 hnm))
     ·exact zey hltm
    generalize w2.setCell ⟨R,0,none⟩ (.slice (cutA A1 (cap - 1) q) (tl.length - q) (cap - 1 - q))=W2 at *
    have hqt:(tl.take q).length=q:=List.length_take_of_le hq
    have c3:=ziC A1 (cap - 1) (tl.take q) W2 hr2 (by omega)
    rw[hqt]at c3
    have HN:Hid (numR (k::tl)=if(valR (tl.take q)).2=0 then((valR (tl.take q)).1,1+q,0)else(0,0,(valR (tl.take q)).2)):=by
     show _=_
     simp only[numR,if_neg hk8,if_neg hkl,hqk]
    clear hr1 hr2 hr3 hqt hqk hkq
    go_wp2_with fail
    refine(zbC R A1 tl.length (cap - 1) w2 h01).mono ?_
    rintro e w3 ⟨rfl,rfl⟩
    go_wp2_with fail
    refine c2.mono ?_
    rintro e w4 ⟨rfl,rfl⟩
    clear c2
    go_wp2_with fail
    refine c3.mono ?_
    rintro e w5 ⟨rfl,rfl⟩
    clear c3
    go_wp2_with fail
    go_ret2
    refine⟨?_,hE2,zJ hg1 hg2,?_⟩
    ·rw[HN.out]
     by_cases hv:(valR (tl.take q)).2=0
     ·rw[if_pos hv,hv];exact rfl
     ·rw[if_neg hv,ziE _ hv];exact rfl
    ·rw[HN.out]
     by_cases hv:(valR (tl.take q)).2=0
     ·rw[if_pos hv];intro _;rw[Nat.add_comm];exact hRest
     ·rw[if_neg hv];intro h;exact absurd h hv
def numS (rest:List Int) (e most:Int):Int ×List Int ×Int:=
 if e=0 then
  if(numR rest).2.2=0 then
   if most<(numR rest).1 then(0,rest,3)else((numR rest).1,rest.drop (numR rest).2.1,0)
  else(0,rest,(numR rest).2.2)
 else(0,rest,e)
theorem zaK (R:Nat) (rest:List Int) (e most:Int) (w:World) (h:St w R rest e):
  Calls prog 39 #[.pointer (some ⟨R,0,none⟩),.int .i64 most] w fun en w'=>en=.returned (.int .i64 (numS rest e most).1)∧St w' R (numS rest e most).2.1 (numS rest e most).2.2∧w.grownBy w' (some R):=by
 obtain⟨hE,hR⟩:=h
 by_cases he:e=0
 ·subst he
  have hR:=hR rfl
  have cn:=zkC R 0 rest w hE hR
  have HS:Hid (numS rest 0 most=if(numR rest).2.2=0 then(if most<(numR rest).1 then(0,rest,3)else((numR rest).1,rest.drop (numR rest).2.1,0))else(0,rest,(numR rest).2.2)):=by show _=_;simp[numS]
  generalize (numR rest).1=v at *
  generalize (numR rest).2.1=c at *
  generalize (numR rest).2.2=er at *
  by_cases her:er=0
  ·subst her
   rw[if_pos rfl]at HS
   by_cases hmost:most<v
   ·rw[if_pos hmost]at HS
    go_enter func39,ntmps39
    go_wp2_with fail
    refine(zaw R 0 w hE).mono ?_
    rintro e w1 ⟨rfl,rfl⟩
    go_wp2_with fail
    refine cn.mono ?_
    rintro e w2 ⟨rfl,hE2,hg2,hR2⟩
    go_wp2_with fail
    refine(zcq R 0 3 w2 hE2).mono ?_
    rintro e w3 ⟨rfl,hE3,hg3⟩
    go_wp2_with fail
    go_ret
    rw[HS.out]
    exact⟨rfl,⟨hE3,fun h=>by cases h⟩,zJ hg2 hg3⟩
   ·rw[if_neg hmost]at HS
    go_enter func39,ntmps39
    go_wp2_with fail
    refine(zaw R 0 w hE).mono ?_
    rintro e w1 ⟨rfl,rfl⟩
    go_wp2_with fail
    refine cn.mono ?_
    rintro e w2 ⟨rfl,hE2,hg2,hR2⟩
    have hR3:=hR2 (by trivial)
    clear hR2 cn
    go_wp2_with fail
    go_ret
    rw[HS.out]
    exact⟨rfl,⟨hE2,fun _=>hR3⟩,hg2⟩
  ·have her':(er==0)=false:=by simpa using her
   rw[if_neg her]at HS
   go_enter func39,ntmps39
   go_wp2_with fail
   refine(zaw R 0 w hE).mono ?_
   rintro e w1 ⟨rfl,rfl⟩
   go_wp2_with fail
   refine cn.mono ?_
   rintro e w2 ⟨rfl,hE2,hg2,hR2⟩
   clear hR2 cn
   go_wp2_with fail
   refine(zcq R 0 er w2 hE2).mono ?_
   rintro e w3 ⟨rfl,hE3,hg3⟩
   go_wp2_with fail
   go_ret
   rw[HS.out]
   exact⟨rfl,⟨hE3,fun h=>absurd h her⟩,zJ hg2 hg3⟩
 ·have HS:Hid (numS rest e most=(0,rest,e)):=by show _=_;simp[numS,he]
  have he':(e==0)=false:=by simpa using he
  go_enter func39,ntmps39
  go_wp2_with fail
  refine(zaw R e w hE).mono ?_
  rintro en w1 ⟨rfl,rfl⟩
  go_wp2_with fail
  go_ret
  rw[HS.out]
  exact⟨rfl,⟨hE,fun h=>absurd h he⟩,zbp _ _⟩
theorem RowAt.none_nil {w:World} {zs:List Int} (h:RowAt w none zs):zs=[]:=by
 rcases h.2.2 with h|⟨b,off,hx,_⟩
 ·exact h
 ·cases hx
theorem RowAt.str {w:World} {a:Option Addr} {zs:List Int} (h:RowAt w a zs) (cap:Nat):(convert 59 9 (.slice a zs.length cap)).run prog w=.ok (.string (strOf zs)) w:=zfS h cap
theorem zez (a:Option Addr) (cap:Nat) (zs:List Int) (w:World) (h:RowAt w a zs) (hm:zs.length≤549755813888):
  Calls prog 69 #[.slice a zs.length cap] w fun e w'=>∃v,e=.returned v∧Mine w' w.heap.size v zs∧Below w.heap.size w w':=by
 obtain⟨i0,hi,hz0,hz1,hz2⟩:=zW zat
 cases a with
 |none=>
  obtain rfl:=h.none_nil
  have hn:=fun w=>Lib.run_eql_slice_nil (P:=prog) w 59 5 none 0 cap 0 0 underlying59
  go_enter func69,ntmps69
  go_wp2
  go_ret
  exact⟨_,rfl,⟨World.ownsRow_nil _ _ _ _,by simp⟩,Below.refl _ _⟩
 |some x=>
  have hn:=fun w=>Lib.run_eql_slice_nil (P:=prog) w 59 5 (some x) zs.length cap 0 0 underlying59
  go_enter func69,ntmps69
  go_wp2_with (at_builtin;refine zK _ rfl _ _ 59 59 rfl w.heap.size 5 i0 (.int .u8 0) 1 1 underlying59 hi hz0 hz1 hz2 rfl _ 0 [] rfl (World.ownsRow_made w #[] 0 (Nat.le_refl _) (by simp) (by simp)) (.slice (some x) zs.length cap) zs.length (zs.map (Value.int .u8)) rfl ((h.below ((Below.refl _ _).alloc (Nat.le_refl _) _)).src cap) ?c1 ?c2 ?c3 ?_)
  case c1=>unfold maxLen;omega
  case c2=>omega
  case c3=>simp
  intro v' w1 hown hgrow
  have hb1:Below w.heap.size w w1:=((Below.refl _ _).alloc (Nat.le_refl _) _).grown hgrow (by simp) (fun k hk=>by simp[Value.ownBlock]at hk;omega)
  go_wp2
  go_ret
  exact⟨_,rfl,⟨by simpa using hown,h.2.1⟩,hb1⟩
theorem zj0 (a:Option Addr) (cap:Nat) (zs:List Int) (w:World) (h:RowAt w a zs) (hm:zs.length≤549755813888):
  Calls prog 38 #[.slice a zs.length cap] w fun e w'=>∃R,e=.returned (.pointer (some ⟨R,0,none⟩))∧w.heap.size≤R∧St w' R zs 0∧Below w.heap.size w w':=by
 go_enter func38,ntmps38
 go_wp2_with fail
 refine(zez a cap zs w h hm).mono ?_
 rintro e w1 ⟨v,rfl,hmine,hb⟩
 obtain⟨a',cap',rfl,hc1,hc2,hr⟩:=hmine.rowAt (by unfold maxLen;omega)
 have hblk:∀x,a'=some x→x.block<w1.heap.size:=fun x hx=>(hmine.1.lt x.block (by simp[hx,Value.ownBlock])).2
 have hb2:Below w1.heap.size w1 (w1.alloc (.cells #[.slice a' zs.length cap',.bool true,.int .i64 0] 138)):=(Below.refl _ _).alloc (Nat.le_refl _) _
 have hSt:St (w1.alloc (.cells #[.slice a' zs.length cap',.bool true,.int .i64 0] 138)) w1.heap.size zs 0:=by
  have cs:∀j,(w1.alloc (.cells #[.slice a' zs.length cap',.bool true,.int .i64 0] 138)).cell? ⟨w1.heap.size,j,none⟩=(#[.slice a' zs.length cap',.bool true,.int .i64 0]:Array Value)[j]? :=fun j=>World.cell?_alloc_at _ _ _ _ rfl
  have fs:∀j,(w1.alloc (.cells #[.slice a' zs.length cap',.bool true,.int .i64 0] 138)).frozen? ⟨w1.heap.size,j,none⟩=false:=fun j=>World.frozen?_alloc_at _ _ _ _ rfl
  exact⟨⟨by simp,⟨a',zs.length,cap',cs 0⟩,cs 1,cs 2,fs 0,fs 1,fs 2⟩,fun _=>⟨a',cap',cs 0,hc1,hc2,hr.below hb2,hblk⟩⟩
 go_wp2_with fail
 go_ret
 exact⟨_,rfl,hb.size,hSt,hb.trans (hb2.mono hb.size)⟩
theorem zgC (R:Nat) (rest:List Int) (n:Int) (w:World) (h:St w R rest 0) (hn:(rest.length:Int)<n):
  Calls prog 73 #[.pointer (some ⟨R,0,none⟩),.int .i64 n] w fun en w'=>en=.returned (.slice none 0 0)∧St w' R rest 10∧w.grownBy w' (some R):=by
 obtain⟨hE,hR⟩:=h
 obtain⟨a,cap,h0,hc,hm,hrow,hne⟩:=hR rfl
 go_enter func73,ntmps73
 go_wp2_with fail
 refine(zbC R a rest.length cap w h0).mono ?_
 rintro en w1 ⟨rfl,rfl⟩
 go_wp2_with fail
 refine(zcq R 0 10 w1 hE).mono ?_
 rintro en w2 ⟨rfl,hE2,hg2⟩
 go_wp2_with fail
 go_ret
 exact⟨rfl,⟨hE2,fun h=>by cases h⟩,hg2⟩
theorem zgB (R:Nat) (rest:List Int) (n:Int) (w:World) (h:St w R rest 0) (hn0:0≤n) (hn:n≤(rest.length:Int)):
  Calls prog 73 #[.pointer (some ⟨R,0,none⟩),.int .i64 n] w fun en w'=>∃a cap,en=.returned (.slice a n.toNat cap)∧n.toNat≤cap∧RowAt w' a (rest.take n.toNat)∧St w' R (rest.drop n.toNat) 0∧w.grownBy w' (some R):=by
 obtain⟨hE,hR⟩:=h
 obtain⟨a,cap,h0,hc,hm,hrow,hlt⟩:=hR rfl
 have hne:=zgI hlt
 obtain⟨q,hq⟩:∃q:Nat,n.toNat=q:=⟨_,rfl⟩
 have hqn:(q:Int)=n:=by omega
 rw[hq]
 have ct:=zdJ R a q rest.length cap w h0 hE.2.2.2.2.1 (by omega) hc hm
 rw[hqn]at ct
 have hE2:=hE.set0 (cutA a cap q) (rest.length - q) (cap - q)
 have hg2:=zaD w R 0 (.slice (cutA a cap q) (rest.length - q) (cap - q))
 have hr2:=(hrow.take q).gb hg2 (.inr hne)
 have h02:(w.setCell ⟨R,0,none⟩ (.slice (cutA a cap q) (rest.length - q) (cap - q))).cell? ⟨R,0,none⟩=some (.slice (cutA a cap q) (rest.length - q) (cap - q)):=World.cell?_setCell_same _ _ _ h0
 have hRest:Rest (w.setCell ⟨R,0,none⟩ (.slice (cutA a cap q) (rest.length - q) (cap - q))) R (rest.drop q):=
  ⟨cutA a cap q,cap - q,by rw[List.length_drop];exact h02,by rw[List.length_drop];omega,by omega,(hrow.drop q cap (by omega) hc).gb hg2 (.inr (zb0 hne)),zey hlt⟩
 have hqc:q≤cap:=by omega
 generalize w.setCell ⟨R,0,none⟩ (.slice (cutA a cap q) (rest.length - q) (cap - q))=W2 at *
 have hnn:¬((rest.length:Int)<n):=by omega
 clear hq hqn
 go_enter func73,ntmps73
 go_wp2_with fail
 refine(zbC R a rest.length cap w h0).mono ?_
 rintro en w1 ⟨rfl,rfl⟩
 go_wp2_with fail
 refine ct.mono ?_
 rintro en w2 ⟨rfl,rfl⟩
 go_wp2_with fail
 go_ret
 exact⟨a,cap,rfl,hqc,hr2,⟨hE2,fun _=>hRest⟩,hg2⟩
def textS (rest:List Int) (e most:Int):List Int ×List Int ×Int:=
 if(numS rest e 9223372036854775807).2.2=0 then
  if most<(numS rest e 9223372036854775807).1 then([],rest,3)
  else if((numS rest e 9223372036854775807).2.1.length:Int)<(numS rest e 9223372036854775807).1 then([],rest,10)
  else((numS rest e 9223372036854775807).2.1.take (numS rest e 9223372036854775807).1.toNat,(numS rest e 9223372036854775807).2.1.drop (numS rest e 9223372036854775807).1.toNat,0)
 else([],rest,(numS rest e 9223372036854775807).2.2)
theorem St.other {w:World} {R:Nat} {rest:List Int} {e:Int} (h:St w R rest e) (he:e≠0) (rest':List Int):St w R rest' e:=⟨h.1,fun h0=>absurd h0 he⟩
theorem zdE (R:Nat) (rest:List Int) (e most:Int) (w:World) (h:St w R rest e) (hpos:0≤(numS rest e 9223372036854775807).1):
  Calls prog 40 #[.pointer (some ⟨R,0,none⟩),.int .i64 most] w fun en w'=>en=.returned (.string (strOf (textS rest e most).1))∧St w' R (textS rest e most).2.1 (textS rest e most).2.2∧w.grownBy w' (some R):=by
 have cn:=zaK R rest e 9223372036854775807 w h
 have HT:Hid (textS rest e most=if(numS rest e 9223372036854775807).2.2=0 then
  (if most<(numS rest e 9223372036854775807).1 then([],rest,3)
  else if((numS rest e 9223372036854775807).2.1.length:Int)<(numS rest e 9223372036854775807).1 then([],rest,10)
  else((numS rest e 9223372036854775807).2.1.take (numS rest e 9223372036854775807).1.toNat,(numS rest e 9223372036854775807).2.1.drop (numS rest e 9223372036854775807).1.toNat,0))
  else([],rest,(numS rest e 9223372036854775807).2.2)):=rfl
 generalize (numS rest e 9223372036854775807).1=n at *
 generalize (numS rest e 9223372036854775807).2.1=r1 at *
 generalize (numS rest e 9223372036854775807).2.2=e1 at *
 have hs0:strOf []=⟨#[]⟩:=rfl
 by_cases he:e1=0
 ·subst he
  rw[if_pos rfl]at HT
  by_cases hmost:most<n
  ·rw[if_pos hmost]at HT
   go_enter func40,ntmps40
   go_wp2_with fail
   refine cn.mono ?_
   rintro en w1 ⟨rfl,hS1,hg1⟩
   clear cn
   go_wp2_with fail
   refine(zaw R 0 w1 hS1.1).mono ?_
   rintro en w2 ⟨rfl,rfl⟩
   go_wp2_with fail
   refine(zcq R 0 3 w2 hS1.1).mono ?_
   rintro en w3 ⟨rfl,hE3,hg3⟩
   go_wp2_with fail
   go_ret
   rw[HT.out]
   exact⟨rfl,⟨hE3,fun h=>by cases h⟩,zJ hg1 hg3⟩
  ·rw[if_neg hmost]at HT
   by_cases hlen:(r1.length:Int)<n
   ·rw[if_pos hlen]at HT
    have sn:∀w:World,(convert 59 9 (.slice none 0 0)).run prog w=.ok (.string ⟨#[]⟩) w:=fun w=>(zaR w).str 0
    go_enter func40,ntmps40
    go_wp2_with fail
    refine cn.mono ?_
    rintro en w1 ⟨rfl,hS1,hg1⟩
    clear cn
    go_wp2_with fail
    refine(zaw R 0 w1 hS1.1).mono ?_
    rintro en w2 ⟨rfl,rfl⟩
    go_wp2_with fail
    refine(zgC R r1 n w2 hS1 hlen).mono ?_
    rintro en w3 ⟨rfl,hS3,hg3⟩
    have s3:=sn w3
    go_wp2_with fail
    go_ret
    rw[HT.out]
    exact⟨rfl,hS3.other (by omega) _,zJ hg1 hg3⟩
   ·rw[if_neg hlen]at HT
    go_enter func40,ntmps40
    go_wp2_with fail
    refine cn.mono ?_
    rintro en w1 ⟨rfl,hS1,hg1⟩
    clear cn
    go_wp2_with fail
    refine(zaw R 0 w1 hS1.1).mono ?_
    rintro en w2 ⟨rfl,rfl⟩
    go_wp2_with fail
    refine(zgB R r1 n w2 hS1 hpos (by omega)).mono ?_
    rintro en w3 ⟨a,cap,rfl,hca,hra,hS3,hg3⟩
    have s3:=hra.str cap
    rw[List.length_take_of_le (by omega)]at s3
    go_wp2_with fail
    go_ret
    rw[HT.out]
    exact⟨rfl,hS3,zJ hg1 hg3⟩
 ·rw[if_neg he]at HT
  have he':(e1==0)=false:=by simpa using he
  go_enter func40,ntmps40
  go_wp2_with fail
  refine cn.mono ?_
  rintro en w1 ⟨rfl,hS1,hg1⟩
  clear cn
  go_wp2_with fail
  refine(zaw R e1 w1 hS1.1).mono ?_
  rintro en w2 ⟨rfl,rfl⟩
  go_wp2_with fail
  go_ret
  rw[HT.out]
  exact⟨rfl,hS1.other he _,hg1⟩
namespace Tal
theorem zmr (ds:List Int) (hz:∀z∈ds,0≤z∧z<256) (hh:ds.head? ≠some 0) (hv:val ds≤9223372036854775807):digs (val ds).toNat=ds:=by
  have key:∀k,k≤ds.length→val (ds.take k)≤9223372036854775807→digs (val (ds.take k)).toNat=ds.take k:=by
    intro k
    induction k with
    |zero=>intro _ _;simp[val,zeu]
    |succ k ih=>
      intro hk hle
      have hlt:k<ds.length:=by omega
      have e:=zfd ds k hlt
      have hb:=zb4 (ds.take k) (fun z h=>hz z (List.mem_of_mem_take h))
      have hd:0≤ds.getD k 0∧ds.getD k 0<256:=by
        rw[List.getD_eq_getElem?_getD,List.getElem?_eq_getElem hlt];exact hz _ (List.getElem_mem hlt)
      have hi:=ih (by omega) (by omega)
      have hpos:0<val (ds.take (k+1)):=by
        by_cases h0:k=0
        · subst h0
          have:val (ds.take 0)=0:=by simp[val]
          rw[e,this]
          cases ds with
          |nil=>simp at hlt
          |cons x tl=>simp at hh hd ⊢;omega
        · have : 0 < val (ds.take k) := by
            rcases Int.lt_or_eq_of_le hb.1 with h|h
            · exact h
            · rw[←h]at hi
              have hl:=congrArg List.length hi
              rw[List.length_take_of_le (by omega)]at hl
              have:(digs (0:Int).toNat).length=0:=by decide
              omega
          omega
      have ht:ds.take (k+1)=ds.take k++[ds.getD k 0]:=by
        rw[List.take_succ_eq_append_getElem hlt,List.getD_eq_getElem?_getD,List.getElem?_eq_getElem hlt];rfl
      have e1:(val (ds.take (k+1))).toNat / 256=(val (ds.take k)).toNat:=by omega
      have e2:((((val (ds.take (k+1))).toNat%256:Nat)):Int)=ds.getD k 0:=by omega
      rw[zhn _ (by omega) (by omega),e1,e2,hi,ht]
  have:=key ds.length (Nat.le_refl _)
  rw[List.take_length]at this
  exact this hv
theorem zkD (zs:List Int) (hz:∀z∈zs,0≤z∧z<256) (h:(numR zs).2.2=0):
    putL (numR zs).1=zs.take (numR zs).2.1∧(numR zs).2.1≤zs.length∧0≤(numR zs).1∧(numR zs).1≤9223372036854775807:=by
  cases zs with
  |nil=>simp[numR]at h
  |cons k tl=>
    have hk:=hz k (by simp)
    by_cases h8:8<k
    · simp[numR,h8]at h
    · by_cases hl:(tl.length:Int)<k
      · simp[numR,h8,hl]at h
      · by_cases hv:(valR (tl.take k.toNat)).2=0
        · have e:numR (k::tl)=((valR (tl.take k.toNat)).1,1+k.toNat,0):=by simp only[numR,if_neg h8,if_neg hl,if_pos hv]
          rw[e]
          have hds:∀z∈tl.take k.toNat,0≤z∧z<256:=fun z h=>hz z (by simp[List.mem_of_mem_take h])
          have hb:=zb4 _ hds
          have hnot:¬((tl.take k.toNat).head? =some 0∨9223372036854775807<val (tl.take k.toNat)):=by
            intro hc;unfold valR at hv;rw[if_pos hc]at hv;cases hv
          have e1:(valR (tl.take k.toNat)).1=val (tl.take k.toNat):=by unfold valR;rw[if_neg hnot]
          have hlen:(tl.take k.toNat).length=k.toNat:=List.length_take_of_le (by omega)
          have hd:=zmr (tl.take k.toNat) hds (fun h=>hnot (Or.inl h)) (by omega)
          have hw:(wid (val (tl.take k.toNat)).toNat:Int)=k:=by
            rw[←zaE,hd,hlen];omega
          simp only[e1]
          refine⟨?_,by simp;omega,hb.1,by omega⟩
          unfold putL
          rw[if_neg (by omega),numB,hd,hw,Nat.add_comm]
          rfl
        · simp only[numR,if_neg h8,if_neg hl,if_neg hv]at h
          exact absurd h hv
end Tal
open Sha Tal
open Go.RowKit
variable {B : Nat}
def Rf (B:Nat) (w:World) (X:Nat) (zs:List Int) (p:Nat) (e:Int):Prop:=
 X<w.heap.size∧(∃a cap,w.cell? ⟨X,0,none⟩=some (.slice a zs.length cap)∧zs.length≤cap∧cap≤maxLen∧RowAt w a zs∧∀x,a=some x→B≤x.block∧x.block<X)∧
 w.cell? ⟨X,1,none⟩=some (.int .i64 (p:Int))∧w.cell? ⟨X,2,none⟩=some (.int .i64 e)∧w.frozen? ⟨X,0,none⟩=false∧w.frozen? ⟨X,1,none⟩=false∧w.frozen? ⟨X,2,none⟩=false∧p≤zs.length∧zs.length≤40000
namespace Tal
end Tal
open Go.RowKit
open Sha Tal
variable {B : Nat}
def RSt (B:Nat) (w:World) (X:Nat) (rest:List Int) (e:Int):Prop:=∃zs p,Rf B w X zs p e∧(e=0→zs.drop p=rest)
end Go.Proofs.YtcbpbkefggekmaaGreatDoor
namespace Go.Proofs.YtcbpbkefggekmaaGreatDoor
open Go.RowKit
open Sha Tal
variable {B : Nat}
def rawS (rest:List Int) (e n:Int):List Int ×List Int ×Int:=
 if e=0 then
  if n<0 then([],rest,2)
  else if(rest.length:Int)<n then([],rest,10)
  else(rest.take n.toNat,rest.drop n.toNat,0)
 else([],rest,e)
theorem zZ {w w':World} {b j:Nat} (h:w'.heap[b]? =w.heap[b]?):w'.cell? ⟨b,j,none⟩=w.cell? ⟨b,j,none⟩∧w'.frozen? ⟨b,j,none⟩=w.frozen? ⟨b,j,none⟩:=by
 constructor
 ·simp only[World.cell?,h]
 ·simp only[World.frozen?,h]
theorem RdE.below {w w':World} {R:Nat} {e:Int} (h:RdE w R e) (hb:w'.heap[R]? =w.heap[R]?) (hs:w.heap.size≤w'.heap.size):RdE w' R e:=by
 obtain⟨hR,⟨a,n,c,h0⟩,h1,h2,f0,f1,f2⟩:=h
 have hc:=fun j=>(zZ (j:=j) hb)
 exact⟨Nat.lt_of_lt_of_le hR hs,⟨a,n,c,(hc 0).1.trans h0⟩,(hc 1).1.trans h1,(hc 2).1.trans h2,(hc 0).2.trans f0,(hc 1).2.trans f1,(hc 2).2.trans f2⟩
theorem St.below {w w':World} {R:Nat} {rest:List Int} {e:Int} (h:St w R rest e) (hb:Below w.heap.size w w'):St w' R rest e:=by
 have hR:=h.1.1
 refine⟨h.1.below (hb.block R hR) hb.size,fun he=>?_⟩
 obtain⟨a,cap,h0,hc,hm,hr,hne⟩:=h.2 he
 exact⟨a,cap,(zZ (hb.block R hR)).1.trans h0,hc,hm,hr.below hb,hne⟩
theorem Mine.nil (w:World) (B:Nat):Mine w B (.slice none 0 0) []:=⟨World.ownsRow_nil _ _ _ _,by simp⟩
theorem Mine.mono' {w:World} {B B':Nat} {v:Value} {zs:List Int} (h:Mine w B v zs) (hb:B'≤B):Mine w B' v zs:=by
 refine⟨⟨h.1.1,?_⟩,h.2⟩
 rcases h.1.2 with h|⟨g,cap,cur,hv,hg,r⟩
 ·exact .inl h
 ·exact .inr ⟨g,cap,cur,hv,Nat.le_trans hb hg,r⟩
end Go.Proofs.YtcbpbkefggekmaaGreatDoor
namespace Go.Proofs.YtcbpbkefggekmaaGreatDoor
open Go.RowKit
open Sha Tal
theorem zmS (s:ByteArray) (hs:s.size≤1099511627) (w:World):∃c w1,(convert 9 59 (.string s)).run prog w=.ok (.slice (some ⟨w.heap.size,0,none⟩) (strL s).length c) w1∧RowAt w1 (some ⟨w.heap.size,0,none⟩) (strL s)∧Below w.heap.size w w1:=by
 refine⟨grownCap w s.size 0 5,Lib.bytesWorld w 5 s,?_,?_,?_⟩
 ·rw[Lib.run_convert_string_bytes w 9 59 5 s underlying9 underlying59 underlying5,zN]
 ·refine⟨by rw[zN];unfold maxLen;omega,zbt s,.inr ⟨_,_,rfl,by rw[Lib.bytesWorld_size];omega,fun j v hv=>?_⟩⟩
  have hj:j<s.size:=by
   have:=(List.getElem?_eq_some_iff.1 hv).1
   rwa [v8_length,zN]at this
  rw[Nat.zero_add,Lib.bytesWorld_cell w 5 s j hj,←hv]
  have hj':j<s.data.toList.length:=by simpa using hj
  simp only[v8,strL,List.map_map,List.getElem?_map,List.getElem?_eq_getElem hj',List.getD_eq_getElem?_getD,Option.getD_some,Option.map_some,Function.comp]
 ·exact⟨rfl,rfl,rfl,by rw[Lib.bytesWorld_size];omega,fun k hk=>Lib.bytesWorld_at_old w 5 s k hk⟩
structure MrAt (w:World) (Q R:Nat) (z:Bool):Prop where
 lt:Q<w.heap.size
 ne:R<Q
 c0:w.cell? ⟨Q,0,none⟩=some (.pointer (some ⟨R,0,none⟩))
 c1:w.cell? ⟨Q,1,none⟩=some (.bool z)
 f1:w.frozen? ⟨Q,1,none⟩=false
theorem MrAt.at {w w':World} {Q R:Nat} {z:Bool} (h:MrAt w Q R z) (hb:w'.heap[Q]? =w.heap[Q]?) (hs:w.heap.size≤w'.heap.size):MrAt w' Q R z:=
 ⟨Nat.lt_of_lt_of_le h.lt hs,h.ne,(zZ hb).1.trans h.c0,(zZ hb).1.trans h.c1,(zZ hb).2.trans h.f1⟩
theorem MrAt.gb {w w':World} {Q R:Nat} {z:Bool} (h:MrAt w Q R z) (hg:w.grownBy w' (some R)):MrAt w' Q R z:=
 h.at (hg.block Q h.lt (fun e=>by have:=h.ne;cases e;omega)) hg.size
theorem MrAt.below {w w':World} {Q R:Nat} {z:Bool} (h:MrAt w Q R z) (hb:Below w.heap.size w w'):MrAt w' Q R z:=h.at (hb.block Q h.lt) hb.size
def doneE (rest:List Int) (e:Int):Int:=if e=0 then(if rest.length=0 then 0 else 12)else e
theorem zmp (R:Nat) (rest:List Int) (e:Int) (w:World) (h:St w R rest e):Calls prog 42 #[.pointer (some ⟨R,0,none⟩)] w fun en w'=>en=.returned (.int .i64 (doneE rest e))∧w'=w:=by
 have ce:=zaw R e w h.1
 by_cases he:e=0
 ·subst he
  obtain⟨a,cap,h0,_⟩:=h.2 rfl
  have cl:=zbC R a rest.length cap w h0
  have E:doneE rest 0=if rest.length=0 then 0 else 12:=by simp[doneE]
  rw[E]
  clear E h
  by_cases hr:rest.length=0
  ·rw[if_pos hr]
   rw[hr]at cl
   clear hr h0
   go_enter func42,ntmps42
   go_wp2_with fail
   refine ce.mono ?_
   rintro e1 w1 ⟨rfl,hx⟩
   obtain rfl:=hx.symm
   clear hx
   go_wp2_with fail
   refine cl.mono ?_
   rintro e2 w2 ⟨rfl,hx⟩
   obtain rfl:=hx.symm
   clear hx
   go_wp2
   go_ret
   exact⟨rfl,rfl⟩
  ·rw[if_neg hr]
   have hr':(0:Int)<rest.length:=by omega
   obtain⟨n,hn⟩:∃n:Int,(rest.length:Int)=n:=⟨_,rfl⟩
   rw[hn]at cl hr'
   clear hr hn h0
   go_enter func42,ntmps42
   go_wp2_with fail
   refine ce.mono ?_
   rintro e1 w1 ⟨rfl,hx⟩
   obtain rfl:=hx.symm
   clear hx
   go_wp2_with fail
   refine cl.mono ?_
   rintro e2 w2 ⟨rfl,hx⟩
   obtain rfl:=hx.symm
   clear hx
   go_wp2
   go_ret
   exact⟨rfl,rfl⟩
 ·have E:doneE rest e=e:=by simp[doneE,he]
  rw[E]
  have n1:(e !=0)=true:=bne_iff_ne.2 he
  clear E h he
  go_enter func42,ntmps42
  go_wp2_with fail
  refine ce.mono ?_
  rintro e1 w1 ⟨rfl,hx⟩
  obtain rfl:=hx.symm
  clear hx
  go_wp2
  go_ret
  exact⟨rfl,rfl⟩
theorem zlY (Q R:Nat) (rest:List Int) (e:Int) (w:World) (h:St w R rest e) (hq:MrAt w Q R false):Calls prog 67 #[.pointer (some ⟨Q,0,none⟩)] w fun en w'=>en=.returned (.int .i64 (doneE rest e))∧w'=w:=by
 have cd:=zmp R rest e w h
 have c0:=hq.c0
 have c1:=hq.c1
 generalize doneE rest e=r at *
 clear h hq
 go_enter func67,ntmps67
 go_wp2_with fail
 refine cd.mono ?_
 rintro e1 w1 ⟨rfl,hx⟩
 obtain rfl:=hx.symm
 clear hx cd
 go_wp2
 go_ret
 exact⟨rfl,rfl⟩
theorem zY {w w':World} {b o n:Nat} (h:w.there b o n) (hb:w'.heap[b]? =w.heap[b]?):w'.there b o n:=fun j hj=>by
 have:=h j hj
 exact⟨by rw[(zZ hb).1];exact this.1,(zZ hb).2.trans this.2⟩
theorem St.belowN {w w':World} {R n:Nat} {rest:List Int} {e:Int} (h:St w R rest e) (hb:Below n w w') (hn:R<n):St w' R rest e:=by
 refine⟨h.1.below (hb.block R hn) hb.size,fun he=>?_⟩
 obtain⟨a,cap,h0,hc,hm,hr,hne⟩:=h.2 he
 refine⟨a,cap,(zZ (hb.block R hn)).1.trans h0,hc,hm,⟨hr.1,hr.2.1,?_⟩,hne⟩
 rcases hr.2.2 with q|⟨b,off,rfl,q1,q2⟩
 ·exact .inl q
 ·exact .inr ⟨b,off,rfl,Nat.lt_of_lt_of_le q1 hb.size,za q2 hb (by have:=hne _ rfl;simp only at this;omega)⟩
theorem zfl (s:ByteArray):strOf (strL s)=s:=by
 unfold strOf strL
 rw[foldl_push_byteCells]
 cases s;simp
namespace Tal
theorem zlm (n:Nat) (h0:0<n) (h:n<2^63):(digs n).head? ≠some 0:=by
  obtain⟨_,b,c⟩:=zcG 8 n h (by omega)
  obtain⟨c1,c2⟩:=c h0
  have hg:=zew (wid n) n 0 c1
  have hl:=zaE n
  unfold digs at hl ⊢
  cases hd:digK (wid n) n with
  |nil=>simp
  |cons x tl=>
    rw[hd]at hg
    have hg':x=((n / 256^(wid n - 1 - 0)%256:Nat):Int):=hg
    rw[Nat.sub_zero]at hg'
    have hlt:n / 256^(wid n - 1)<256:=by
      rw[Nat.div_lt_iff_lt_mul (Nat.pow_pos (by omega)),Nat.mul_comm,←Nat.pow_succ]
      have e:(wid n - 1).succ=wid n:=by omega
      rw[e];exact b
    have hpos:0<n / 256^(wid n - 1):=Nat.div_pos c2 (Nat.pow_pos (by omega))
    rw[Nat.mod_eq_of_lt hlt]at hg'
    intro hc
    simp only[List.head?_cons,Option.some.injEq]at hc
    omega
theorem zkF (n:Nat) (h:n<2^63) (more:List Int):numR (numB n++more)=((n:Int),1+wid n,0):=by
 have hw:=zbe n h
 have hv:=ziD n h
 have ht:(digs n++more).take (wid n)=digs n:=by rw[List.take_append_of_le_length (by rw[zaE];exact Nat.le_refl _),List.take_of_length_le (by rw[zaE];exact Nat.le_refl _)]
 have hh:¬((digs n).head? =some 0∨9223372036854775807<val (digs n)):=by
  rw[hv]
  by_cases h0:n=0
  ·subst h0;rw[zeu];simp
  ·intro hc
   rcases hc with hc|hc
   ·exact zlm n (by omega) h hc
   ·omega
 have e:valR (digs n)=((n:Int),0):=by unfold valR;rw[if_neg hh,hv]
 have e0:numB n++more=(wid n:Int)::(digs n++more):=rfl
 rw[e0]
 simp only[numR]
 rw[if_neg (by omega),if_neg (by rw[List.length_append,zaE];omega),Int.toNat_natCast,ht,e]
 simp
theorem zck (x most:Int) (h0:0≤x) (h1:x≤9223372036854775807) (hm:x≤most) (more:List Int):numS (putL x++more) 0 most=(x,more,0):=by
 have e:putL x=numB x.toNat:=by unfold putL;rw[if_neg (by omega)]
 have hr:=zkF x.toNat (by omega) more
 have hx:((x.toNat:Nat):Int)=x:=by omega
 rw[hx]at hr
 have hd:(numB x.toNat++more).drop (1+wid x.toNat)=more:=by
  have:(numB x.toNat).length=1+wid x.toNat:=by simp only[numB,List.length_cons,zaE];omega
  rw[←this,List.drop_append_of_le_length (Nat.le_refl _)];simp
 unfold numS
 rw[e,hr,if_pos rfl,if_pos rfl,if_neg (by omega),hd]
end Tal
theorem ziN (s:ByteArray) (most:Int) (hs:s.size≤1099511627) (hm:(s.size:Int)≤most) (more:List Int):textS (textL s++more) 0 most=(strL s,more,0):=by
 have e:textL s++more=putL (s.size:Int)++(strL s++more):=by unfold textL;rw[List.append_assoc]
 have hn:=zck (s.size:Int) 9223372036854775807 (by omega) (by omega) (by omega) (strL s++more)
 unfold textS
 rw[e,hn]
 simp only[Int.toNat_natCast]
 rw[if_pos trivial,if_neg (by omega),if_neg (by rw[List.length_append,zN];omega)]
 have hl:=zN s
 rw[List.take_append_of_le_length (by omega),List.take_of_length_le (by omega),List.drop_append_of_le_length (by omega),List.drop_of_length_le (by omega),List.nil_append]
theorem zfm (zs:List Int):(strOf zs).toList=zs.map (fun n=>UInt8.ofNat n.toNat):=by
  have key:∀(zs:List Int) (r:ByteArray),(zs.foldl (fun r n=>r.push (UInt8.ofNat n.toNat)) r).data.toList=r.data.toList++zs.map (fun n=>UInt8.ofNat n.toNat):=by
    intro zs
    induction zs with
    |nil=>intro r;simp
    |cons z zs ih=>intro r;rw[List.foldl_cons,ih];simp[ByteArray.push]
  rw[ByteArray.toList_eq]
  unfold strOf
  rw[key]
  rfl
theorem ziX:∀{xs ys:List Int},(∀z∈xs,0≤z∧z<256)→(∀z∈ys,0≤z∧z<256)→(strOf xs).toList=(strOf ys).toList→xs=ys:=by
 intro xs ys hx hy h
 rw[zfm,zfm]at h
 have hl:xs.length=ys.length:=by simpa using congrArg List.length h
 apply List.ext_getElem hl
 intro i h1 h2
 have:=congrArg (·[i]?) h
 simp only[List.getElem?_map,List.getElem?_eq_getElem h1,List.getElem?_eq_getElem h2,Option.map_some,Option.some.injEq]at this
 have a1:=hx _ (List.getElem_mem h1)
 have a2:=hy _ (List.getElem_mem h2)
 have:=congrArg UInt8.toNat this
 simp only[UInt8.toNat_ofNat']at this
 omega
theorem zam {n m:Int}:inB n m=true↔0≤n∧n≤m:=by unfold inB;exact decide_eq_true_iff
open Go.RowKit
open Sha Tal
theorem zaT {fn:Func} {p u:Tmp} {ty:TypeId} (h:fn.results=#[.cell p ty,.tmp u]) (tmps:Array Value) (P:Program) (w:World) {a:Addr} {v:Value} (ha:tmps.getD p undef=.pointer (some a)) (hv:(loadVar ty a).run P w=.ok v w):(results fn tmps).run P w=.ok (.tuple #[v,tmps.getD u undef]) w:=by
 rw[results_cell_tmp h,ha]
 simp[asAddr,hv,Result.andThen]
end Go.Proofs.YtcbpbkefggekmaaGreatDoor
