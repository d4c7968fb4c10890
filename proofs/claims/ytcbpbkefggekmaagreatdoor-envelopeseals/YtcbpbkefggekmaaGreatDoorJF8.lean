/- Good; Encode, the program's and the document's; batches that are not too much; the reader's tags and digests; The document's reader: Read.; A region that draws  -/
import Derived.Test.YtcbpbkefggekmaaGreatDoorJF0
import Derived.Test.YtcbpbkefggekmaaGreatDoorJF7
import Derived.Test.YtcbpbkefggekmaaGreatDoorJF6
import Derived.Test.YtcbpbkefggekmaaGreatDoorJF4
import Derived.Test.YtcbpbkefggekmaaGreatDoorJF5
import Derived.Deep.Cut
import Derived.Deep.DeepCutAuto
import Derived.WalkKit
import Derived.Deep.RegionHeld3
set_option maxHeartbeats 4000000
set_option maxRecDepth 100000
open Go.Proofs.Tryz
namespace Go.Proofs.YtcbpbkefggekmaaGreatDoor
open Go.RowKit
open Sha Tal
def Mg.plain (k:Int):Mg:=⟨k,0,0,0,0,false,⟨none,0,[]⟩,Vt.zero,0,0,0,⟨none,0,[]⟩,⟨none,0,[]⟩,zb,Vt.zero,⟨none,0,[]⟩,⟨#[]⟩,⟨none,0,[]⟩⟩
theorem Mg.plain_ok (k:Int):(Mg.plain k).ok:=⟨Vt.zero_ok,Vt.zero_ok,zw,zG⟩
theorem zV {w:World}:HdsAt w ⟨none,0,[]⟩:=⟨RowsAt.none,fun _ h=>by cases h⟩
def Mg.bare (m:Mg):Mg:=
 if m.k=1 then {Mg.plain 1 with q:=m.q,rs:=m.rs,e:=m.e,s:=m.s}
 else if m.k=2 then {Mg.plain 2 with vt:=m.vt}
 else if m.k=3 then {Mg.plain 3 with ce:=m.ce,cl:=m.cl,cv:=m.cv,he:=m.he}
 else if m.k=4 then {Mg.plain 4 with e:=m.e,l:=m.l,v:=m.v,ne:=m.ne}
 else if m.k=5 then {Mg.plain 5 with e:=m.e,d:=m.d}
 else if m.k=6 then {Mg.plain 6 with e:=m.e,s:=m.s}
 else if m.k=7 then {Mg.plain 7 with q:=m.q,rs:=m.rs,ct:=m.ct,cs:=m.cs}
 else if m.k=8 then {Mg.plain 8 with st:=m.st,sg:=m.sg}
 else Mg.plain m.k
theorem Mg.bare_1 {m:Mg} (h:m.k=1):m.bare={Mg.plain 1 with q:=m.q,rs:=m.rs,e:=m.e,s:=m.s}:=by unfold Mg.bare;rw[h];rfl
theorem Mg.bare_2 {m:Mg} (h:m.k=2):m.bare={Mg.plain 2 with vt:=m.vt}:=by unfold Mg.bare;rw[h];rfl
theorem Mg.bare_3 {m:Mg} (h:m.k=3):m.bare={Mg.plain 3 with ce:=m.ce,cl:=m.cl,cv:=m.cv,he:=m.he}:=by unfold Mg.bare;rw[h];rfl
theorem Mg.bare_4 {m:Mg} (h:m.k=4):m.bare={Mg.plain 4 with e:=m.e,l:=m.l,v:=m.v,ne:=m.ne}:=by unfold Mg.bare;rw[h];rfl
theorem Mg.bare_5 {m:Mg} (h:m.k=5):m.bare={Mg.plain 5 with e:=m.e,d:=m.d}:=by unfold Mg.bare;rw[h];rfl
theorem Mg.bare_6 {m:Mg} (h:m.k=6):m.bare={Mg.plain 6 with e:=m.e,s:=m.s}:=by unfold Mg.bare;rw[h];rfl
theorem Mg.bare_7 {m:Mg} (h:m.k=7):m.bare={Mg.plain 7 with q:=m.q,rs:=m.rs,ct:=m.ct,cs:=m.cs}:=by unfold Mg.bare;rw[h];rfl
theorem Mg.bare_8 {m:Mg} (h:m.k=8):m.bare={Mg.plain 8 with st:=m.st,sg:=m.sg}:=by unfold Mg.bare;rw[h];rfl
theorem Mg.bare_ok {m:Mg} (h:m.ok) (h1:1≤m.k) (h8:m.k≤8):m.bare.ok:=by
 have hk:m.k=1∨m.k=2∨m.k=3∨m.k=4∨m.k=5∨m.k=6∨m.k=7∨m.k=8:=by omega
 have p:=fun k=>Mg.plain_ok k
 rcases hk with hk|hk|hk|hk|hk|hk|hk|hk
 ·rw[Mg.bare_1 hk];exact⟨by first|exact h.vt|exact(p 0).vt,by first|exact h.ct|exact(p 0).ct,by first|exact h.dl|exact(p 0).dl,by first|exact h.db|exact(p 0).db⟩
 ·rw[Mg.bare_2 hk];exact⟨by first|exact h.vt|exact(p 0).vt,by first|exact h.ct|exact(p 0).ct,by first|exact h.dl|exact(p 0).dl,by first|exact h.db|exact(p 0).db⟩
 ·rw[Mg.bare_3 hk];exact⟨by first|exact h.vt|exact(p 0).vt,by first|exact h.ct|exact(p 0).ct,by first|exact h.dl|exact(p 0).dl,by first|exact h.db|exact(p 0).db⟩
 ·rw[Mg.bare_4 hk];exact⟨by first|exact h.vt|exact(p 0).vt,by first|exact h.ct|exact(p 0).ct,by first|exact h.dl|exact(p 0).dl,by first|exact h.db|exact(p 0).db⟩
 ·rw[Mg.bare_5 hk];exact⟨by first|exact h.vt|exact(p 0).vt,by first|exact h.ct|exact(p 0).ct,by first|exact h.dl|exact(p 0).dl,by first|exact h.db|exact(p 0).db⟩
 ·rw[Mg.bare_6 hk];exact⟨by first|exact h.vt|exact(p 0).vt,by first|exact h.ct|exact(p 0).ct,by first|exact h.dl|exact(p 0).dl,by first|exact h.db|exact(p 0).db⟩
 ·rw[Mg.bare_7 hk];exact⟨by first|exact h.vt|exact(p 0).vt,by first|exact h.ct|exact(p 0).ct,by first|exact h.dl|exact(p 0).dl,by first|exact h.db|exact(p 0).db⟩
 ·rw[Mg.bare_8 hk];exact⟨by first|exact h.vt|exact(p 0).vt,by first|exact h.ct|exact(p 0).ct,by first|exact h.dl|exact(p 0).dl,by first|exact h.db|exact(p 0).db⟩
theorem Mg.bare_at {m:Mg} {w:World} (h:m.At w) (h1:1≤m.k) (h8:m.k≤8):m.bare.At w:=by
 have hk:m.k=1∨m.k=2∨m.k=3∨m.k=4∨m.k=5∨m.k=6∨m.k=7∨m.k=8:=by omega
 rcases hk with hk|hk|hk|hk|hk|hk|hk|hk
 ·rw[Mg.bare_1 hk];exact⟨by first|exact h.rs|exact RowsAt.none,by first|exact h.he|exact zV,by first|exact h.ne|exact RowsAt.none,by first|exact h.cs|exact RowsAt.none,by first|exact h.sg|exact RowsAt.none⟩
 ·rw[Mg.bare_2 hk];exact⟨by first|exact h.rs|exact RowsAt.none,by first|exact h.he|exact zV,by first|exact h.ne|exact RowsAt.none,by first|exact h.cs|exact RowsAt.none,by first|exact h.sg|exact RowsAt.none⟩
 ·rw[Mg.bare_3 hk];exact⟨by first|exact h.rs|exact RowsAt.none,by first|exact h.he|exact zV,by first|exact h.ne|exact RowsAt.none,by first|exact h.cs|exact RowsAt.none,by first|exact h.sg|exact RowsAt.none⟩
 ·rw[Mg.bare_4 hk];exact⟨by first|exact h.rs|exact RowsAt.none,by first|exact h.he|exact zV,by first|exact h.ne|exact RowsAt.none,by first|exact h.cs|exact RowsAt.none,by first|exact h.sg|exact RowsAt.none⟩
 ·rw[Mg.bare_5 hk];exact⟨by first|exact h.rs|exact RowsAt.none,by first|exact h.he|exact zV,by first|exact h.ne|exact RowsAt.none,by first|exact h.cs|exact RowsAt.none,by first|exact h.sg|exact RowsAt.none⟩
 ·rw[Mg.bare_6 hk];exact⟨by first|exact h.rs|exact RowsAt.none,by first|exact h.he|exact zV,by first|exact h.ne|exact RowsAt.none,by first|exact h.cs|exact RowsAt.none,by first|exact h.sg|exact RowsAt.none⟩
 ·rw[Mg.bare_7 hk];exact⟨by first|exact h.rs|exact RowsAt.none,by first|exact h.he|exact zV,by first|exact h.ne|exact RowsAt.none,by first|exact h.cs|exact RowsAt.none,by first|exact h.sg|exact RowsAt.none⟩
 ·rw[Mg.bare_8 hk];exact⟨by first|exact h.rs|exact RowsAt.none,by first|exact h.he|exact zV,by first|exact h.ne|exact RowsAt.none,by first|exact h.cs|exact RowsAt.none,by first|exact h.sg|exact RowsAt.none⟩
def Mg.good (m:Mg):Bool:=decide (1≤m.k∧m.k≤8)&&(Mg.B m m.bare&&m.may)
theorem goodW (q q':List Value) (k:Int) (b1 b2:Bool) (w:World) (hq:q.length=119) (h0:q[0]? =some (.int .i64 k))
  (kb:1≤k→k≤8→∀w0,Below w.heap.size w w0→Calls prog 85 #[.agg q.toArray] w0 (BareOk w0 q'))
  (ks:1≤k→k≤8→∀w0,Below w.heap.size w w0→Calls prog 84 #[.agg q.toArray,.agg q'.toArray] w0 fun e w'=>e=.returned (.bool b1)∧Below w0.heap.size w0 w')
  (kf:∀w0,Below w.heap.size w w0→Calls prog 86 #[.agg q.toArray] w0 fun e w'=>e=.returned (.bool b2)∧Below w0.heap.size w0 w'):
  Calls prog 57 #[.agg q.toArray] w fun e w'=>e=.returned (.bool (decide (1≤k∧k≤8)&&(b1&&b2)))∧Below w.heap.size w w':=by
 have hB:Below w.heap.size w (w.alloc (.cells q.toArray 52)):=(Below.refl _ _).alloc (Nat.le_refl _) _
 have hs:w.heap.size<(w.alloc (.cells q.toArray 52)).heap.size:=by simp
 have hA:(w.alloc (.cells q.toArray 52)).rangeAt w.heap.size 0 q:=by simpa using zA w q.toArray 52
 have c0:=hA 0 _ h0
 simp only[Nat.add_zero]at c0
 have iq:(prog.info? 52).map (·.size)=some q.length:=by rw[hq];exact iszM
 clear hq h0
 by_cases hk:1≤k∧k≤8
 ·rw[decide_eq_true hk,Bool.true_and]
  replace kb:=kb hk.1 hk.2
  replace ks:=ks hk.1 hk.2
  obtain⟨h1,h8⟩:=hk
  cases b1
  ·rw[Bool.false_and]
   go_enter func57,ntmps57
   go_upto_region 2 with fail
   obtain⟨w8,hw8⟩:∃w8,(w.alloc (.cells q.toArray 52)).drew=w8:=⟨_,rfl⟩
   have hB8:Below w.heap.size w w8:=by rw[←hw8];exact hB.drew
   have hA8:w8.rangeAt w.heap.size 0 q:=by rw[←hw8];exact(World.rangeAt_drew _ _ _ _).2 hA
   have hs8:w.heap.size<w8.heap.size:=by rw[←hw8];exact hs
   have gb:=fun w0 (h0:Below w8.heap.size w8 w0)=>kb w0 (hB8.trans (h0.mono hB8.size))
   have gs:=fun w0 (h0:Below w8.heap.size w8 w0)=>ks w0 (hB8.trans (h0.mono hB8.size))
   have gf:=fun w0 (h0:Below w8.heap.size w8 w0)=>kf w0 (hB8.trans (h0.mono hB8.size))
   refine zC (S:=(Below w8.heap.size w8)) 12 rfl (by kernel_rfl) ?_
   rw[hw8]
   clear hw8 hA hB hs c0 kb ks kf
   have hS:(Below w8.heap.size w8) w8:=Below.refl _ _
   refine hs_a 0 12 hS ?_
   refine hs_a 1 13 hS ?_
   refine hs_v 2 14 (.agg q.toArray) rfl (fun w' hw=>zH rfl rfl (run_loadVar_mid (P:=prog) w' w.heap.size 0 52 q _ (zd hA8 hw hs8) underlying52 rfl iq)) hS ?_
   refine hs_v 3 15 (.agg q.toArray) rfl (fun w' hw=>zH rfl rfl (run_loadVar_mid (P:=prog) w' w.heap.size 0 52 q _ (zd hA8 hw hs8) underlying52 rfl iq)) hS ?_
   refine hs_c 4 16 ?_
   refine(gb _ hS).mono ?_
   rintro e' wn1 ⟨rfl,hb1⟩
   have hS:(Below w8.heap.size w8) wn1:=hS.trans (hb1.mono hS.size)
   refine⟨_,rfl,hS,?_⟩
   simp only[nz]
   refine hs_c 5 17 ?_
   refine(gs _ hS).mono ?_
   rintro e' wn2 ⟨rfl,hb2⟩
   have hS:(Below w8.heap.size w8) wn2:=hS.trans (hb2.mono hS.size)
   refine⟨_,rfl,hS,?_⟩
   simp only[nz]
   refine hs_a 6 18 hS ?_
   refine hs_a 7 19 hS ?_
   refine hs_k 8 20 hS ?_
   refine hs_k 9 21 hS ?_
   refine hs_a 10 22 hS ?_
   refine hs_a 11 2 hS ?_
   refine zv (by kernel_rfl) ?_
   go_wp2
   go_ret
   exact⟨rfl,hB8.trans (hS.mono hB8.size)⟩
  ·rw[Bool.true_and]
   go_enter func57,ntmps57
   go_upto_region 2 with fail
   obtain⟨w8,hw8⟩:∃w8,(w.alloc (.cells q.toArray 52)).drew=w8:=⟨_,rfl⟩
   have hB8:Below w.heap.size w w8:=by rw[←hw8];exact hB.drew
   have hA8:w8.rangeAt w.heap.size 0 q:=by rw[←hw8];exact(World.rangeAt_drew _ _ _ _).2 hA
   have hs8:w.heap.size<w8.heap.size:=by rw[←hw8];exact hs
   have gb:=fun w0 (h0:Below w8.heap.size w8 w0)=>kb w0 (hB8.trans (h0.mono hB8.size))
   have gs:=fun w0 (h0:Below w8.heap.size w8 w0)=>ks w0 (hB8.trans (h0.mono hB8.size))
   have gf:=fun w0 (h0:Below w8.heap.size w8 w0)=>kf w0 (hB8.trans (h0.mono hB8.size))
   refine zC (S:=(Below w8.heap.size w8)) 12 rfl (by kernel_rfl) ?_
   rw[hw8]
   clear hw8 hA hB hs c0 kb ks kf
   have hS:(Below w8.heap.size w8) w8:=Below.refl _ _
   refine hs_a 0 12 hS ?_
   refine hs_a 1 13 hS ?_
   refine hs_v 2 14 (.agg q.toArray) rfl (fun w' hw=>zH rfl rfl (run_loadVar_mid (P:=prog) w' w.heap.size 0 52 q _ (zd hA8 hw hs8) underlying52 rfl iq)) hS ?_
   refine hs_v 3 15 (.agg q.toArray) rfl (fun w' hw=>zH rfl rfl (run_loadVar_mid (P:=prog) w' w.heap.size 0 52 q _ (zd hA8 hw hs8) underlying52 rfl iq)) hS ?_
   refine hs_c 4 16 ?_
   refine(gb _ hS).mono ?_
   rintro e' wn1 ⟨rfl,hb1⟩
   have hS:(Below w8.heap.size w8) wn1:=hS.trans (hb1.mono hS.size)
   refine⟨_,rfl,hS,?_⟩
   simp only[nz]
   refine hs_c 5 17 ?_
   refine(gs _ hS).mono ?_
   rintro e' wn2 ⟨rfl,hb2⟩
   have hS:(Below w8.heap.size w8) wn2:=hS.trans (hb2.mono hS.size)
   refine⟨_,rfl,hS,?_⟩
   simp only[nz]
   refine hs_a 6 18 hS ?_
   refine hs_a 7 19 hS ?_
   refine hs_v 8 20 (.agg q.toArray) rfl (fun w' hw=>zH rfl rfl (run_loadVar_mid (P:=prog) w' w.heap.size 0 52 q _ (zd hA8 hw hs8) underlying52 rfl iq)) hS ?_
   refine hs_c 9 21 ?_
   refine(gf _ hS).mono ?_
   rintro e' wn3 ⟨rfl,hb3⟩
   have hS:(Below w8.heap.size w8) wn3:=hS.trans (hb3.mono hS.size)
   refine⟨_,rfl,hS,?_⟩
   simp only[nz]
   refine hs_a 10 22 hS ?_
   refine hs_a 11 2 hS ?_
   refine zv (by kernel_rfl) ?_
   go_wp2
   go_ret
   exact⟨rfl,hB8.trans (hS.mono hB8.size)⟩
 ·rw[decide_eq_false hk,Bool.false_and]
  have hk':k<1∨(1≤k∧8<k):=by omega
  clear hk kb ks kf
  have kb:∀w0,Below w.heap.size w w0→True:=fun _ _=>trivial
  have ks:=kb
  have kf:=kb
  rcases hk' with hk|⟨hk,hk2⟩
  ·have n1:¬1≤k:=by omega
   go_enter func57,ntmps57
   go_upto_region 2 with fail
   obtain⟨w8,hw8⟩:∃w8,(w.alloc (.cells q.toArray 52)).drew=w8:=⟨_,rfl⟩
   have hB8:Below w.heap.size w w8:=by rw[←hw8];exact hB.drew
   have hA8:w8.rangeAt w.heap.size 0 q:=by rw[←hw8];exact(World.rangeAt_drew _ _ _ _).2 hA
   have hs8:w.heap.size<w8.heap.size:=by rw[←hw8];exact hs
   have gb:=fun w0 (h0:Below w8.heap.size w8 w0)=>kb w0 (hB8.trans (h0.mono hB8.size))
   have gs:=fun w0 (h0:Below w8.heap.size w8 w0)=>ks w0 (hB8.trans (h0.mono hB8.size))
   have gf:=fun w0 (h0:Below w8.heap.size w8 w0)=>kf w0 (hB8.trans (h0.mono hB8.size))
   refine zC (S:=(Below w8.heap.size w8)) 12 rfl (by kernel_rfl) ?_
   rw[hw8]
   clear hw8 hA hB hs c0 kb ks kf
   have hS:(Below w8.heap.size w8) w8:=Below.refl _ _
   refine hs_a 0 12 hS ?_
   refine hs_a 1 13 hS ?_
   refine hs_k 2 14 hS ?_
   refine hs_k 3 15 hS ?_
   refine hs_k 4 16 hS ?_
   refine hs_k 5 17 hS ?_
   refine hs_a 6 18 hS ?_
   refine hs_a 7 19 hS ?_
   refine hs_k 8 20 hS ?_
   refine hs_k 9 21 hS ?_
   refine hs_a 10 22 hS ?_
   refine hs_a 11 2 hS ?_
   refine zv (by kernel_rfl) ?_
   go_wp2
   go_ret
   exact⟨rfl,hB8.trans (hS.mono hB8.size)⟩
  ·have n1:¬k≤8:=by omega
   go_enter func57,ntmps57
   go_upto_region 2 with fail
   obtain⟨w8,hw8⟩:∃w8,(w.alloc (.cells q.toArray 52)).drew=w8:=⟨_,rfl⟩
   have hB8:Below w.heap.size w w8:=by rw[←hw8];exact hB.drew
   have hA8:w8.rangeAt w.heap.size 0 q:=by rw[←hw8];exact(World.rangeAt_drew _ _ _ _).2 hA
   have hs8:w.heap.size<w8.heap.size:=by rw[←hw8];exact hs
   have gb:=fun w0 (h0:Below w8.heap.size w8 w0)=>kb w0 (hB8.trans (h0.mono hB8.size))
   have gs:=fun w0 (h0:Below w8.heap.size w8 w0)=>ks w0 (hB8.trans (h0.mono hB8.size))
   have gf:=fun w0 (h0:Below w8.heap.size w8 w0)=>kf w0 (hB8.trans (h0.mono hB8.size))
   refine zC (S:=(Below w8.heap.size w8)) 12 rfl (by kernel_rfl) ?_
   rw[hw8]
   clear hw8 hA hB hs c0 kb ks kf
   have hS:(Below w8.heap.size w8) w8:=Below.refl _ _
   refine hs_a 0 12 hS ?_
   refine hs_a 1 13 hS ?_
   refine hs_k 2 14 hS ?_
   refine hs_k 3 15 hS ?_
   refine hs_k 4 16 hS ?_
   refine hs_k 5 17 hS ?_
   refine hs_a 6 18 hS ?_
   refine hs_a 7 19 hS ?_
   refine hs_k 8 20 hS ?_
   refine hs_k 9 21 hS ?_
   refine hs_a 10 22 hS ?_
   refine hs_a 11 2 hS ?_
   refine zv (by kernel_rfl) ?_
   go_wp2
   go_ret
   exact⟨rfl,hB8.trans (hS.mono hB8.size)⟩
set_option linter.unusedVariables false
set_option linter.unusedSimpArgs false
theorem enc1 (q:List Value) (b:Bool) (zs:List Int) (w:World) (hq:q.length=119)
  (hg:∀w0,Below w.heap.size w w0→Calls prog 57 #[.agg q.toArray] w0 fun e w'=>e=.returned (.bool b)∧Below w0.heap.size w0 w') (hw:b=true→∀(X:Nat) (w0:World),Below w.heap.size w w0→w.heap.size≤X→WrAt w0 X (.slice none 0 0) [] false→Calls prog 58 #[.pointer (some ⟨X,0,none⟩),.agg q.toArray] w0 fun e w'=>WrOn X (.slice none 0 0) [] zs w0 e w'):
  Calls prog 22 #[.agg q.toArray] w fun e w'=>e=.returned (encV b zs)∧Below w.heap.size w w':=by
 have hB:Below w.heap.size w (w.alloc (.cells q.toArray 52)):=(Below.refl _ _).alloc (Nat.le_refl _) _
 have hs:w.heap.size<(w.alloc (.cells q.toArray 52)).heap.size:=by simp
 have hA:(w.alloc (.cells q.toArray 52)).rangeAt w.heap.size 0 q:=by simpa using zA w q.toArray 52
 have iq:(prog.info? 52).map (·.size)=some q.length:=by rw[hq];exact iszM
 clear hq
 cases b
 ·show Calls prog 22 #[.agg q.toArray] w fun e w'=>e=.returned (.tuple #[.string ⟨#[]⟩,.int .i64 130])∧Below w.heap.size w w'
  clear hw
  go_enter func22,ntmps22
  go_upto_region 1 with fail
  go_name_world w1 hw1
  rw[show w.alloc (.cells q.toArray 52)=w1 from hw1]at hB hs hA
  clear hw1
  go_wp2_with (refine wpList_load_mid rfl 52 _ rfl _ _ rfl q _ hA underlying52 rfl iq ?_)
  refine(hg _ hB).mono ?_
  rintro e2 w2 ⟨rfl,hb2⟩
  have hB2:=hB.trans (hb2.mono (by omega))
  clear hA hg hB hb2
  go_wp2
  go_ret2
  exact⟨rfl,hB2⟩
 ·show Calls prog 22 #[.agg q.toArray] w fun e w'=>e=.returned (.tuple #[.string (strOf zs),.int .i64 0])∧Below w.heap.size w w'
  replace hw:=hw rfl
  obtain⟨sz,hsz⟩:∃sz,Hid (strOf zs=sz):=⟨_,hide rfl⟩
  rw[hsz.out]
  go_enter func22,ntmps22
  go_upto_region 1 with fail
  go_name_world w1 hw1
  rw[show w.alloc (.cells q.toArray 52)=w1 from hw1]at hB hs hA
  clear hw1
  go_wp2_with (refine wpList_load_mid rfl 52 _ rfl _ _ rfl q _ hA underlying52 rfl iq ?_)
  refine(hg _ hB).mono ?_
  rintro e2 w2 ⟨rfl,hb2⟩
  have hB2:=hB.trans (hb2.mono (by omega))
  have hA2:=zd hA hb2 hs
  have hs2:=Nat.lt_of_lt_of_le hs hb2.size
  clear hA hg hB hb2 hs
  go_upto_region 4 with fail
  have hN:=zeI w2
  have hB3:Below w2.heap.size w2 (w2.alloc (.cells #[.slice none 0 0,.bool false] 116)):=(Below.refl _ _).alloc (Nat.le_refl _) _
  go_name_world w3 hw3
  rw[show w2.alloc (.cells #[.slice none 0 0,.bool false] 116)=w3 from hw3]at hN hB3
  clear hw3
  have hA3:=zd hA2 hB3 hs2
  have hB4:=hB2.trans (hB3.mono (by omega))
  have cw:=hw w2.heap.size w3 hB4 hB2.size hN
  have hs3:=hN.lt
  clear hA2 hB2 hB3 hw hN
  go_wp2_with (refine wpList_load_mid rfl 52 _ rfl _ _ rfl q _ hA3 underlying52 rfl iq ?_)
  refine cw.mono ?_
  rintro e5 w5 ⟨v5,rfl,hW5,hO5,_⟩
  rw[List.nil_append]at hW5
  have c0:=hW5.c0
  have c1:=hW5.c1
  have hcs:=zgn hW5.me
  have hB5:=hB4.trans (hO5.below (n:=w.heap.size) (by omega) (fun b hb hf=>by
   rcases hf with hf|hf
   ·omega
   ·cases hf))
  obtain⟨a5,cap5,rfl⟩:∃a cap,v5=.slice a zs.length cap:=by
   rcases zaS hW5.me.1 with⟨rfl,h0,_⟩|⟨g,cap,rfl,_⟩
   ·exact⟨none,0,by rw[h0]⟩
   ·exact⟨_,cap,rfl⟩
  rw[hsz.out]at hcs
  clear hsz cw hW5 hO5 hA3 hB4
  go_wp2
  go_ret2
  exact⟨rfl,hB5⟩
structure Bat where
 q:Bool
 a:Option Addr
 cap:Nat
 rs:List BRq
def Bat.cells (x:Bat):List Value:=[.bool x.q,.slice x.a x.rs.length x.cap]
def Bat.at (x:Bat) (w:World):Prop:=ReqsAt w x.a x.rs∧True∧True
def BatsAt (w:World) (b:Nat) (xs:List Bat):Prop:=xs.length≤2∧(∀x∈xs,x.at w)∧b<w.heap.size∧w.rangeAt b 0 (xs.flatMap Bat.cells)
def wtR (rs:List BRq):Nat:=(rs.map fun r=>20+r.s.size).sum
def wt (xs:List Bat):Nat:=(xs.map fun x=>5+wtR x.rs).sum
theorem zdL (R:Nat) (rest:List Int) (e n:Int) (w:World) (h:St w R rest e) (hl:rest.length≤40000):
  Calls prog 41 #[.pointer (some ⟨R,0,none⟩),.int .i64 n] w fun en w'=>∃v,en=.returned v∧Mine w' w.heap.size v (rawS rest e n).1∧St w' R (rawS rest e n).2.1 (rawS rest e n).2.2∧w.grownBy w' (some R):=by
 by_cases he:e=0
 ·subst he
  by_cases hn:n<0
  ·have HS:Hid (rawS rest 0 n=([],rest,2)):=by show _=_;unfold rawS;rw[if_pos rfl,if_pos hn]
   go_enter func41,ntmps41
   go_wp2_with fail
   refine(zav R 0 w h.1).mono ?_
   rintro en w1 ⟨rfl,rfl⟩
   go_wp2_with fail
   refine(zcp R 0 2 w1 h.1).mono ?_
   rintro en w2 ⟨rfl,hE2,hg2⟩
   go_wp2_with fail
   go_ret
   rw[HS.out]
   exact⟨_,rfl,Mine.nil _ _,⟨hE2,fun h=>by cases h⟩,hg2⟩
  ·by_cases hf:(rest.length:Int)<n
   ·have HS:Hid (rawS rest 0 n=([],rest,10)):=by show _=_;unfold rawS;rw[if_pos rfl,if_neg hn,if_pos hf]
    go_enter func41,ntmps41
    go_wp2_with fail
    refine(zav R 0 w h.1).mono ?_
    rintro en w1 ⟨rfl,rfl⟩
    go_wp2_with fail
    refine(zgl R rest n w1 h hf).mono ?_
    rintro en w2 ⟨rfl,hS2,hg2⟩
    have cc:=zee none 0 [] w2 (zaU w2) (by simp)
    simp only[List.length_nil]at cc
    go_wp2_with fail
    refine cc.mono ?_
    rintro en w3 ⟨v,rfl,hm,hb⟩
    go_wp2_with fail
    go_ret
    rw[HS.out]
    exact⟨_,rfl,hm.mono' hg2.size,hS2.below hb,zr hg2 (zW hb _)⟩
   ·have HS:Hid (rawS rest 0 n=(rest.take n.toNat,rest.drop n.toNat,0)):=by show _=_;unfold rawS;rw[if_pos rfl,if_neg hn,if_neg hf]
    go_enter func41,ntmps41
    go_wp2_with fail
    refine(zav R 0 w h.1).mono ?_
    rintro en w1 ⟨rfl,rfl⟩
    go_wp2_with fail
    refine(zgk R rest n w1 h (by omega) (by omega)).mono ?_
    rintro en w2 ⟨a,cap,rfl,hca,hra,hS2,hg2⟩
    have cc:=zee a cap (rest.take n.toNat) w2 hra (by rw[List.length_take];omega)
    rw[List.length_take_of_le (by omega)]at cc
    go_wp2_with fail
    refine cc.mono ?_
    rintro en w3 ⟨v,rfl,hm,hb⟩
    go_wp2_with fail
    go_ret
    rw[HS.out]
    exact⟨_,rfl,hm.mono' hg2.size,hS2.below hb,zr hg2 (zW hb _)⟩
 ·have HS:Hid (rawS rest e n=([],rest,e)):=by show _=_;unfold rawS;rw[if_neg he]
  have he':(e==0)=false:=by simpa using he
  go_enter func41,ntmps41
  go_wp2_with fail
  refine(zav R e w h.1).mono ?_
  rintro en w1 ⟨rfl,rfl⟩
  go_wp2_with fail
  go_ret
  rw[HS.out]
  exact⟨_,rfl,Mine.nil _ _,h,zaK _ _⟩
theorem zu {w W W':World} {R B:Nat} (h:w.grownBy W (some R)) (hb:Below B W W') (hB:w.heap.size≤B):w.grownBy W' (some R):=
 ⟨hb.os.trans h.os,hb.tape.trans h.tape,hb.output.trans h.output,Nat.le_trans h.size hb.size,fun i hi hr=>(hb.block i (by omega)).trans (h.block i hi hr)⟩
theorem zL (W:World) (b:Nat):∀(vs:List Value) (o:Nat),W.grownBy (W.setCells b o vs) (some b):=by
  intro vs
  induction vs generalizing W with
  |nil=>intro o;exact zaK _ _
  |cons v vs ih=>intro o;exact zr (zM W b o v) (ih _ (o+1))
theorem zaM {w w':World} {R b:Nat} {cs:List Value} (h:w.rangeAt b 0 cs) (hg:w.grownBy w' (some R)) (hb:b<w.heap.size) (hne:b≠R):w'.rangeAt b 0 cs:=fun j v hv=>by
 rw[(@zO w w' b (0+j) (hg.block b hb (by intro q;injection q with q;exact hne q))).1]
 exact h j v hv
theorem zJ {w w':World} {R b n:Nat} (h:w.there b 0 n) (hg:w.grownBy w' (some R)) (hb:b<w.heap.size) (hne:b≠R):w'.there b 0 n:=fun j hj=>by
 have hk:=@zO w w' b (0+j) (hg.block b hb (by intro q;injection q with q;exact hne q))
 exact⟨by rw[hk.1];exact(h j hj).1,by rw[hk.2];exact(h j hj).2⟩
theorem zd4 {P:Program} {o:Oper} {a:Act} {w w':World} {s x:Operand} {t tx:TypeId} {v xv v':Value} (ho:o.op=.call {callee:=.builtin .copy,args:=#[s,x],argTypes:=#[t,tx]}) (hv:a.eval s=v) (hx:a.eval x=xv)
    (hr:(Builtin.copy_ #[t,tx] o.type #[v,xv]).run P w=.ok v' w'):(execOp a.eval o).run P w=.ok (.value v') w':=by
  unfold execOp
  simp only[ho,resolve,invoke,builtin,Sem.run_bind,Sem.run_pure,Result.andThen_ok,List.map_toArray,List.map_cons,List.map_nil,hv,hx,hr]
theorem zak (rest:List Int) (e most:Int):(numS rest e most).2.1.length≤rest.length:=by
 unfold numS
 split
 ·split
  ·split
   ·exact Nat.le_refl _
   ·show(rest.drop _).length≤_;rw[List.length_drop];omega
  ·exact Nat.le_refl _
 ·exact Nat.le_refl _
theorem zcB (rest:List Int) (e most:Int):(textS rest e most).2.1.length≤rest.length:=by
 have h:=zak rest e 9223372036854775807
 unfold textS
 split
 ·split
  ·exact Nat.le_refl _
  ·split
   ·exact Nat.le_refl _
   ·show((numS rest e 9223372036854775807).2.1.drop _).length≤_;rw[List.length_drop];omega
 ·exact Nat.le_refl _
def padN (n:Nat) (zs:List Int):List Int:=if zs.length=n then zs else List.replicate n 0
theorem zcK (rest:List Int) (e n:Int):(rawS rest e n).2.1.length≤rest.length:=by
 unfold rawS
 split
 ·split
  ·exact Nat.le_refl _
  ·split
   ·exact Nat.le_refl _
   ·show(rest.drop _).length≤_;rw[List.length_drop];omega
 ·exact Nat.le_refl _
theorem zbU (rest:List Int) (e:Int) (n:Nat):(rawS rest e n).1.length=n∨(rawS rest e n).1=[]:=by
 unfold rawS
 split
 ·split
  ·exact .inr rfl
  ·split
   ·exact .inr rfl
   ·left;show(rest.take _).length=n;rw[List.length_take];omega
 ·exact .inr rfl
theorem zhe {w:World} {B n:Nat} {a:Option Addr} {cap:Nat} {t:List Int} (h0:0<n) (hT:w.there B 0 n) (hz:w.rangeAt B 0 (v8 (List.replicate n (0:Int)))) (hrow:RowAt w a t) (ht:t.length=n∨t=[]):
  ∃w',(Builtin.copy_ #[59,59] 3 #[.slice (some ⟨B,0,none⟩) n n,.slice a t.length cap]).run prog w=.ok (goInt t.length) w'∧w'.rangeAt B 0 (v8 (padN n t))∧w'=w.setCells B 0 (v8 t):=by
 rcases ht with ht|rfl
 ·rcases hrow.2.2 with rfl|⟨b,off,rfl,hb,hr⟩
  ·exfalso;simp at ht;omega
  ·refine⟨_,?_,?_,rfl⟩
   ·have:=run_copy_cells (P:=prog) w 59 59 3 5 B 0 n n ⟨b,off,none⟩ t.length cap (v8 t) underlying59 isz8 (by rw[v8_length,ht];exact(Nat.min_self _).symm) (fun j v hv=>by rw[Addr.add_mid];exact hr j v hv) (fun j hj=>by rw[v8_length]at hj;exact(hT j (by omega)).1) (fun j hj=>by rw[v8_length]at hj;exact(hT j (by omega)).2) (zy _)
    rw[v8_length]at this
    exact this
   ·unfold padN
    rw[if_pos ht]
    exact World.rangeAt_setCells_same w B 0 (v8 t) (by rw[v8_length,ht];exact hT)
 ·refine⟨w,run_copy_none (P:=prog) w 59 59 3 5 _ a n n 0 cap underlying59 isz8 (by simp),?_,rfl⟩
  unfold padN
  rw[if_neg (by simp;omega)]
  exact hz
theorem zaf (n:Nat) (zs:List Int):(padN n zs).length=n:=by
 unfold padN
 split
 ·assumption
 ·simp
theorem zam {w w':World} {b n:Nat} (h:w.there b 0 n) (hb:Below w.heap.size w w') (hlt:b<w.heap.size):w'.there b 0 n:=zab h (hb.block b hlt)
theorem zaV {w:World} {b q o:Nat} {vs:List Value} (h:q≠b):(w.setCells b o vs).heap[q]? =w.heap[q]? :=by
 by_cases hq:q<w.heap.size
 ·exact(zL w b vs o).block q hq (by intro e;injection e with e;exact h e)
 ·have h1:w.heap.size≤q:=by omega
  rw[Array.getElem?_eq_none (by rw[zF];exact h1),Array.getElem?_eq_none h1]
theorem zft (Q R:Nat) (z:Bool) (rest:List Int) (e:Int) (w:World) (h:St w R rest e) (hq:MrAt w Q R z) (hl:rest.length≤40000):Calls prog 157 #[.pointer (some ⟨Q,0,none⟩)] w fun en w'=>en=.returned (.agg (v8 (padN 16 (rawS rest e 16).1)).toArray)∧St w' R (rawS rest e 16).2.1 (rawS rest e 16).2.2∧w.grownBy w' (some R):=by
 obtain⟨zc,hzc,hzr⟩:∃zc:List Value,Hid (zc=v8 (List.replicate 16 (0:Int)))∧∀w':World,(zeroValue 23).run prog w'=.ok (.agg zc.toArray) w':=⟨_,hide rfl,fun w=>by kernel_rfl⟩
 have hRw:=h.1.1
 have hQw:=hq.lt
 obtain⟨hB1,hr1,hs1⟩:=zq w zc 23
 have ht1:=zi w zc.toArray 23 (n:=16) (by rw[hzc.out];simp)
 have hip:(prog.info? 23).map (·.size)=some (v8 (padN 16 (rawS rest e 16).1)).length:=by rw[v8_length,zaf];kernel_rfl
 have hp1:=zy (padN 16 (rawS rest e 16).1)
 have hpl:(v8 (padN 16 (rawS rest e 16).1)).length=16:=by rw[v8_length,zaf]
 obtain⟨pc,hpc⟩:∃p,Hid (v8 (padN 16 (rawS rest e 16).1)=p):=⟨_,hide rfl⟩
 rw[hpc.out]at hip hp1 hpl ⊢
 go_enter func157,ntmps157
 go_upto_region 0 with fail
 refine pl_b ?_
 refine pl_r 2 (.pointer (some ⟨w.heap.size,0,none⟩)) (w.alloc (.cells zc.toArray 23)) (zo rfl (hzr _)) ?_
 refine za ?_
 obtain⟨W1,hW1⟩:∃W,w.alloc (.cells zc.toArray 23)=W:=⟨_,rfl⟩
 rw[hW1]at hB1 hr1 hs1 ht1 ⊢
 clear hW1
 obtain⟨hB2,hr2,hs2⟩:=zq W1 zc 23
 have ht2:=zi W1 zc.toArray 23 (n:=16) (by rw[hzc.out];simp)
 go_upto_region 1 with fail
 refine pl_b ?_
 refine pl_r 3 (.pointer (some ⟨W1.heap.size,0,none⟩)) (W1.alloc (.cells zc.toArray 23)) (zo rfl (hzr _)) ?_
 refine za ?_
 obtain⟨W2,hW2⟩:∃W,W1.alloc (.cells zc.toArray 23)=W:=⟨_,rfl⟩
 rw[hW2]at hB2 hr2 hs2 ht2 ⊢
 clear hW2
 rw[hzc.out]at hr2
 have thA0:=zam ht1 hB2 hs1
 have hBW:=hB1.trans (hB2.mono hB1.size)
 clear hr1 ht1 hzr hzc
 go_upto_region 2 with fail
 have hB8:Below w.heap.size w W2.drew:=hBW.drew
 have rz8:W2.drew.rangeAt W1.heap.size 0 _:=(World.rangeAt_drew _ _ _ _).2 hr2
 have th8:W2.drew.there W1.heap.size 0 16:=ht2
 have thA8:W2.drew.there w.heap.size 0 16:=thA0
 have hB1':W1.heap.size<W2.drew.heap.size:=hs2
 refine zC (S:=(fun W'=>MrAt W' Q R z)) 7 rfl (by kernel_rfl) ?_
 obtain⟨w8,hw8⟩:∃W,W2.drew=W:=⟨_,rfl⟩
 rw[hw8]at hB8 rz8 th8 thA8 hB1' ⊢
 clear hw8 hr2 ht2 thA0 hBW hs2 hB2
 have st8:=h.below hB8
 have hq8:=hq.below hB8
 have hne1:W1.heap.size≠R:=by omega
 have hS:(fun W'=>MrAt W' Q R z) w8:=hq8
 refine hs_a 0 4 hS ?_
 refine hs_a 1 5 hS ?_
 refine hs_a 2 6 hS ?_
 refine hs_a 3 7 hS ?_
 refine hs_v 4 8 (.pointer (some ⟨R,0,none⟩)) rfl (fun w' hw=>zg rfl rfl hw.c0 underlying98 rfl) hS ?_
 refine hs_c 5 9 ?_
 refine(zdL R rest e 16 w8 st8 hl).mono ?_
 rintro _ w9 ⟨v9,rfl,m9,st9,g9⟩
 have hS:(fun W'=>MrAt W' Q R z) w9:=hq8.gb g9
 refine⟨_,rfl,hS,?_⟩
 obtain⟨av,cv,hve,_,_,row9⟩:=m9.rowAt (by unfold maxLen;have hN:(rawS rest e 16).1.length=16∨(rawS rest e 16).1=[]:=zbU rest e 16;rcases hN with h|h<;>(rw[h];simp))
 rw[hve]
 obtain⟨wc,hcp,hrc,hwc⟩:=zhe (n:=16) (cap:=cv) (by decide) (zJ th8 g9 hB1' hne1) (zaM rz8 g9 hB1' hne1) row9 (zbU rest e 16)
 clear hve
 simp only[nz]
 have hSc:(fun W'=>MrAt W' Q R z) wc:=by rw[hwc];exact(hq8.gb g9).at (zaV (by omega)) (by rw[zF];exact Nat.le_refl _)
 refine zat (i:=6) (d:=some 10) (v:=goInt (rawS rest e 16).1.length) (w':=wc) rfl (by kernel_rfl) (by rfl) (zd4 rfl rfl rfl hcp) rfl hSc ?_
 simp only[nz]
 refine zv (by kernel_rfl) ?_
 have g8:w.grownBy w8 (some R):=zW hB8 _
 have g9':=zr g8 g9
 have hlow:Below w.heap.size w9 wc:=by rw[hwc];exact ze (by omega) _ _ _ (Below.refl _ _)
 have thA:wc.there w.heap.size 0 16:=by rw[hwc];exact World.there_setCells (zJ thA8 g9 (by omega) (by omega)) _ _ _
 have gc:=zu g9' hlow (Nat.le_refl _)
 have sc:St wc R _ _:=st9.belowN hlow hRw
 rw[hpc.out]at hrc
 clear hwc hcp m9 row9 st8 hq8 g9 g8 st9 hlow hS rz8 th8 thA8 hB8 hpc
 go_upto_region 3 with fail
 refine pl_b ?_
 refine pl_v 11 (.agg pc.toArray) (zp rfl rfl hrc underlying23 rfl hip) ?_
 refine pl_s (wc.setCells w.heap.size 0 pc) (zf (cs:=pc.toArray) rfl rfl rfl (by simpa [hpl]using thA) (by simpa using hip) (zh hp1)) ?_
 refine za ?_
 have hrs:=run_loadVar_mid (P:=prog) (wc.setCells w.heap.size 0 pc) w.heap.size 0 23 pc _ (World.rangeAt_setCells_same wc w.heap.size 0 pc (by rw[hpl];exact thA)) underlying23 rfl hip
 have gf:=zu gc (ze (B:=w.heap.size) (b:=w.heap.size) (Nat.le_refl _) pc 0 _ (Below.refl _ wc)) (Nat.le_refl _)
 have sf:St (wc.setCells w.heap.size 0 pc) R _ _:=sc.belowN (n:=w.heap.size) (ze (Nat.le_refl _) pc 0 _ (Below.refl _ wc)) hRw
 clear sc gc
 go_wp2_with fail
 refine bodyPost_ret (v:=.agg pc.toArray) ?_ rfl ?_
 ·simp[results,results157,Act.put,asAddr,hrs]
 ·exact⟨rfl,sf,gf⟩
theorem zfJ (Q R:Nat) (z:Bool) (rest:List Int) (e:Int) (w:World) (h:St w R rest e) (hq:MrAt w Q R z) (hl:rest.length≤40000):Calls prog 113 #[.pointer (some ⟨Q,0,none⟩)] w fun en w'=>en=.returned (.agg (v8 (padN 32 (rawS rest e 32).1)).toArray)∧St w' R (rawS rest e 32).2.1 (rawS rest e 32).2.2∧w.grownBy w' (some R):=by
 obtain⟨zc,hzc,hzr⟩:∃zc:List Value,Hid (zc=v8 (List.replicate 32 (0:Int)))∧∀w':World,(zeroValue 41).run prog w'=.ok (.agg zc.toArray) w':=⟨_,hide rfl,fun w=>by kernel_rfl⟩
 have hRw:=h.1.1
 have hQw:=hq.lt
 obtain⟨hB1,hr1,hs1⟩:=zq w zc 41
 have ht1:=zi w zc.toArray 41 (n:=32) (by rw[hzc.out];simp)
 have hip:(prog.info? 41).map (·.size)=some (v8 (padN 32 (rawS rest e 32).1)).length:=by rw[v8_length,zaf];kernel_rfl
 have hp1:=zy (padN 32 (rawS rest e 32).1)
 have hpl:(v8 (padN 32 (rawS rest e 32).1)).length=32:=by rw[v8_length,zaf]
 obtain⟨pc,hpc⟩:∃p,Hid (v8 (padN 32 (rawS rest e 32).1)=p):=⟨_,hide rfl⟩
 rw[hpc.out]at hip hp1 hpl ⊢
 go_enter func113,ntmps113
 go_upto_region 0 with fail
 refine pl_b ?_
 refine pl_r 2 (.pointer (some ⟨w.heap.size,0,none⟩)) (w.alloc (.cells zc.toArray 41)) (zo rfl (hzr _)) ?_
 refine za ?_
 obtain⟨W1,hW1⟩:∃W,w.alloc (.cells zc.toArray 41)=W:=⟨_,rfl⟩
 rw[hW1]at hB1 hr1 hs1 ht1 ⊢
 clear hW1
 obtain⟨hB2,hr2,hs2⟩:=zq W1 zc 41
 have ht2:=zi W1 zc.toArray 41 (n:=32) (by rw[hzc.out];simp)
 go_upto_region 1 with fail
 refine pl_b ?_
 refine pl_r 3 (.pointer (some ⟨W1.heap.size,0,none⟩)) (W1.alloc (.cells zc.toArray 41)) (zo rfl (hzr _)) ?_
 refine za ?_
 obtain⟨W2,hW2⟩:∃W,W1.alloc (.cells zc.toArray 41)=W:=⟨_,rfl⟩
 rw[hW2]at hB2 hr2 hs2 ht2 ⊢
 clear hW2
 rw[hzc.out]at hr2
 have thA0:=zam ht1 hB2 hs1
 have hBW:=hB1.trans (hB2.mono hB1.size)
 clear hr1 ht1 hzr hzc
 go_upto_region 2 with fail
 have hB8:Below w.heap.size w W2.drew:=hBW.drew
 have rz8:W2.drew.rangeAt W1.heap.size 0 _:=(World.rangeAt_drew _ _ _ _).2 hr2
 have th8:W2.drew.there W1.heap.size 0 32:=ht2
 have thA8:W2.drew.there w.heap.size 0 32:=thA0
 have hB1':W1.heap.size<W2.drew.heap.size:=hs2
 refine zC (S:=(fun W'=>MrAt W' Q R z)) 7 rfl (by kernel_rfl) ?_
 obtain⟨w8,hw8⟩:∃W,W2.drew=W:=⟨_,rfl⟩
 rw[hw8]at hB8 rz8 th8 thA8 hB1' ⊢
 clear hw8 hr2 ht2 thA0 hBW hs2 hB2
 have st8:=h.below hB8
 have hq8:=hq.below hB8
 have hne1:W1.heap.size≠R:=by omega
 have hS:(fun W'=>MrAt W' Q R z) w8:=hq8
 refine hs_a 0 4 hS ?_
 refine hs_a 1 5 hS ?_
 refine hs_a 2 6 hS ?_
 refine hs_a 3 7 hS ?_
 refine hs_v 4 8 (.pointer (some ⟨R,0,none⟩)) rfl (fun w' hw=>zg rfl rfl hw.c0 underlying98 rfl) hS ?_
 refine hs_c 5 9 ?_
 refine(zdL R rest e 32 w8 st8 hl).mono ?_
 rintro _ w9 ⟨v9,rfl,m9,st9,g9⟩
 have hS:(fun W'=>MrAt W' Q R z) w9:=hq8.gb g9
 refine⟨_,rfl,hS,?_⟩
 obtain⟨av,cv,hve,_,_,row9⟩:=m9.rowAt (by unfold maxLen;have hN:(rawS rest e 32).1.length=32∨(rawS rest e 32).1=[]:=zbU rest e 32;rcases hN with h|h<;>(rw[h];simp))
 rw[hve]
 obtain⟨wc,hcp,hrc,hwc⟩:=zhe (n:=32) (cap:=cv) (by decide) (zJ th8 g9 hB1' hne1) (zaM rz8 g9 hB1' hne1) row9 (zbU rest e 32)
 clear hve
 simp only[nz]
 have hSc:(fun W'=>MrAt W' Q R z) wc:=by rw[hwc];exact(hq8.gb g9).at (zaV (by omega)) (by rw[zF];exact Nat.le_refl _)
 refine zat (i:=6) (d:=some 10) (v:=goInt (rawS rest e 32).1.length) (w':=wc) rfl (by kernel_rfl) (by rfl) (zd4 rfl rfl rfl hcp) rfl hSc ?_
 simp only[nz]
 refine zv (by kernel_rfl) ?_
 have g8:w.grownBy w8 (some R):=zW hB8 _
 have g9':=zr g8 g9
 have hlow:Below w.heap.size w9 wc:=by rw[hwc];exact ze (by omega) _ _ _ (Below.refl _ _)
 have thA:wc.there w.heap.size 0 32:=by rw[hwc];exact World.there_setCells (zJ thA8 g9 (by omega) (by omega)) _ _ _
 have gc:=zu g9' hlow (Nat.le_refl _)
 have sc:St wc R _ _:=st9.belowN hlow hRw
 rw[hpc.out]at hrc
 clear hwc hcp m9 row9 st8 hq8 g9 g8 st9 hlow hS rz8 th8 thA8 hB8 hpc
 go_upto_region 3 with fail
 refine pl_b ?_
 refine pl_v 11 (.agg pc.toArray) (zp rfl rfl hrc underlying41 rfl hip) ?_
 refine pl_s (wc.setCells w.heap.size 0 pc) (zf (cs:=pc.toArray) rfl rfl rfl (by simpa [hpl]using thA) (by simpa using hip) (zh hp1)) ?_
 refine za ?_
 have hrs:=run_loadVar_mid (P:=prog) (wc.setCells w.heap.size 0 pc) w.heap.size 0 41 pc _ (World.rangeAt_setCells_same wc w.heap.size 0 pc (by rw[hpl];exact thA)) underlying41 rfl hip
 have gf:=zu gc (ze (B:=w.heap.size) (b:=w.heap.size) (Nat.le_refl _) pc 0 _ (Below.refl _ wc)) (Nat.le_refl _)
 have sf:St (wc.setCells w.heap.size 0 pc) R _ _:=sc.belowN (n:=w.heap.size) (ze (Nat.le_refl _) pc 0 _ (Below.refl _ wc)) hRw
 clear sc gc
 go_wp2_with fail
 refine bodyPost_ret (v:=.agg pc.toArray) ?_ rfl ?_
 ·simp[results,results113,Act.put,asAddr,hrs]
 ·exact⟨rfl,sf,gf⟩
theorem zjA (a:Option Addr) (cap:Nat) (zs:List Int) (w:World) (h:RowAt w a zs) (hl:zs.length≤40000):
  Calls prog 43 #[.slice a zs.length cap] w fun e w'=>∃X,e=.returned (.pointer (some ⟨X,0,none⟩))∧w.heap.size≤X∧RSt w.heap.size w' X zs 0∧Below w.heap.size w w':=by
 obtain⟨i0,hi,hz0,hz1,hz2⟩:=zR zap
 go_enter func43,ntmps43
 go_wp2_with (at_builtin;refine zN _ rfl _ _ 59 59 rfl w.heap.size 5 i0 (.int .u8 0) 1 1 underlying59 hi hz0 hz1 hz2 rfl _ 0 [] rfl (World.ownsRow_made w #[] 0 (Nat.le_refl _) (by simp) (by simp)) (.slice a zs.length cap) zs.length (zs.map (Value.int .u8)) rfl ((h.below ((Below.refl _ _).alloc (Nat.le_refl _) _)).src cap) ?c1 ?c2 ?c3 ?_)
 case c1=>unfold maxLen;omega
 case c2=>omega
 case c3=>simp
 intro v' w1 hown hgrow
 have hb:Below w.heap.size w w1:=((Below.refl _ _).alloc (Nat.le_refl _) _).grown hgrow (by simp) (fun k hk=>by simp[Value.ownBlock]at hk;omega)
 have hmine:Mine w1 w.heap.size v' zs:=⟨by simpa using hown,h.2.1⟩
 clear hown hgrow
 obtain⟨a',cap',rfl,hc1,hc2,hr⟩:=hmine.rowAt (by unfold maxLen;omega)
 have hblk:∀x,a'=some x→w.heap.size≤x.block∧x.block<w1.heap.size:=fun x hx=>hmine.1.lt x.block (by simp[hx,Value.ownBlock])
 have hb2:Below w1.heap.size w1 (w1.alloc (.cells #[.slice a' zs.length cap',.int .i64 0,.int .i64 0] 130)):=(Below.refl _ _).alloc (Nat.le_refl _) _
 have hSt:RSt w.heap.size (w1.alloc (.cells #[.slice a' zs.length cap',.int .i64 0,.int .i64 0] 130)) w1.heap.size zs 0:=by
  have cs:∀j,(w1.alloc (.cells #[.slice a' zs.length cap',.int .i64 0,.int .i64 0] 130)).cell? ⟨w1.heap.size,j,none⟩=(#[.slice a' zs.length cap',.int .i64 0,.int .i64 0]:Array Value)[j]? :=fun j=>World.cell?_alloc_at _ _ _ _ rfl
  have fs:∀j,(w1.alloc (.cells #[.slice a' zs.length cap',.int .i64 0,.int .i64 0] 130)).frozen? ⟨w1.heap.size,j,none⟩=false:=fun j=>World.frozen?_alloc_at _ _ _ _ rfl
  exact⟨zs,0,⟨by simp,⟨a',cap',cs 0,hc1,hc2,hr.below hb2,hblk⟩,cs 1,cs 2,fs 0,fs 1,fs 2,Nat.zero_le _,hl⟩,fun _=>rfl⟩
 go_wp2_with fail
 go_ret
 exact⟨_,rfl,hb.size,hSt,hb.trans (hb2.mono hb.size)⟩
open Go Go.RowKit
section
variable {P : Program} {ops : Array Oper} {Q : Exit → Act → World → Prop} {md : Region.Mode}
def Held (P:Program) (ops:Array Oper) (Q:Exit→Act→World→Prop) (w0:World) (fuel:Nat) (listed:Array Bool) (a:Act) (w:World):Prop:=
 wpAnyH P .any ops (NoPanic Q) (fun w'=>Below w0.heap.size w0 w') fuel listed a w
theorem zk3 {id:Nat} {a:Act} {w:World} (n:Nat) (hn:ops.size=n) (hm:P.follows .mixedOrders=true) (h:Held P ops Q w.drew n (Array.replicate n false) a w.drew):(Code.region id ops true).wp P Q a w:=by
 subst hn
 exact wp_region_noPanic (wp_region_held hm h)
theorem zau {i:Nat} {oi:Oper} {d:Option Nat} {v:Value} {fuel:Nat} {listed:Array Bool} {a:Act} {w w0:World} (hi:ops[i]? =some oi)
  (hs:Region.noSelect ops=true) (hf:Region.free .any ops listed i=true) (hr:(Region.ready .any ops listed).contains i=true)
  (hw:Region.wanted oi (yielded ops a.tmps)=true) (hy:∀w',Below w0.heap.size w0 w'→(execOp a.eval oi).run P w'=.ok (.value v) w') (hS:Below w0.heap.size w0 w) (hdst:oi.dst=d)
  (h:Held P ops Q w0 fuel (listed.setIfInBounds i true) (a.put d v) w):Held P ops Q w0 (fuel+1) listed a w:=by
 subst hdst
 exact wpAnyH_take hi hs hf hr (fun _ _ _ h=>h) (Or.inl ⟨hw,hy⟩) hS h
theorem zgP {i:Nat} {oi:Oper} {d:Option Nat} {v:Value} {fuel:Nat} {listed:Array Bool} {a:Act} {w w' w0:World} (hi:ops[i]? =some oi)
  (hr:Region.ready .any ops listed=[i]) (hw:Region.wanted oi (yielded ops a.tmps)=true) (hy:(execOp a.eval oi).run P w=.ok (.value v) w') (hdst:oi.dst=d)
  (hS:Below w0.heap.size w0 w') (h:Held P ops Q w0 fuel (listed.setIfInBounds i true) (a.put d v) w'):Held P ops Q w0 (fuel+1) listed a w:=by
 subst hdst
 refine wpAnyH_all hr (by simp) ?_
 intro j hj
 obtain rfl:j=i:=by simpa using hj
 unfold wpOp
 simp only[hi,hw,if_true]
 left
 unfold Oper.wp
 rw[hy]
 exact⟨hS,h⟩
theorem zb1 {o:Oper} {a:Act} {w w':World} {s x:Operand} {t tx:TypeId} {v xv v':Value} (ho:o.op=.call {callee:=.builtin .append,args:=#[s,x],argTypes:=#[t,tx]}) (hs:a.eval s=v) (hx:a.eval x=xv)
    (hr:(Builtin.append_ #[t,tx] o.type #[v,xv]).run P w=.ok v' w'):(execOp a.eval o).run P w=.ok (.value v') w':=by
  unfold execOp
  simp only[ho,resolve,invoke,builtin,Sem.run_bind,Sem.run_pure,Result.andThen_ok,List.map_toArray,List.map_cons,List.map_nil,hs,hx,hr]
theorem zk2 {fuel:Nat} {listed:Array Bool} {a:Act} {w w0:World} (hr:Region.ready .any ops listed=[]) (h:Q .normal a w):Held P ops Q w0 fuel listed a w:=
 wpAnyH_done hr (NoPanic.normal h) fuel
end
end Go.Proofs.YtcbpbkefggekmaaGreatDoor
namespace Go.Proofs.YtcbpbkefggekmaaGreatDoor
open Go.RowKit
open Sha Tal
variable {B : Nat}
theorem zjB (X:Nat) (zs:List Int) (p:Nat) (w:World) (hR:Rf B w X zs p 0) (m:Nat) (hmc:p+m≤zs.length):
  Calls prog 46 #[.pointer (some ⟨X,0,none⟩),.int .i64 (m:Int)] w fun en w'=>∃v,en=.returned v∧Mine w' w.heap.size v ((zs.drop p).take m)∧RSt B w' X (zs.drop (p+m)) 0∧w.grownBy w' (some X):=by
 obtain⟨i0,hi,hz0,hz1,hz2⟩:=zR zap
 have hl5:=hR.2.2.2.2.2.2.2.2
 have hpl:=hR.2.2.2.2.2.2.2.1
 have h2:=hR.2.2.2.1
 have f1:=hR.2.2.2.2.2.1
 have h1:=hR.2.2.1
 obtain⟨a,cap,h0,hc,hm,hrow,hne⟩:=id hR.2.1
 unfold maxLen at hm
 have hfew:¬((zs.length:Int) - p<m):=by omega
 have hn0:¬((m:Int)<0):=by omega
 go_enter func46,ntmps46
 go_wp2_with fail
 go_quiet (fail)
 go_wp2_with fail
 have hwrap:IntKind.i64.wrap (p:Int)=p:=by
  have e:(p:Int)%2^64=p:=by omega
  simp only[IntKind.wrap,IntKind.bits,IntKind.signed,e]
  rw[if_neg (by simp;omega)]
 have hRf:Rf B ((w.drewN nq).setCell ⟨X,1,none⟩ (.int .i64 ((p:Int)+m))) X zs (p+m) 0:=by
  have:=(hR.drewN nq).set1 (p+m) hmc
  have e:((p+m:Nat):Int)=(p:Int)+m:=by omega
  rw[e]at this;exact this
 have hgW:w.grownBy ((w.drewN nq).setCell ⟨X,1,none⟩ (.int .i64 ((p:Int)+m))) (some X):=zr (zax w nq _) (zM _ X 1 _)
 have HC0:((w.drewN nq).setCell ⟨X,1,none⟩ (.int .i64 ((p:Int)+m))).drew.cell? ⟨X,0,none⟩=some (.slice a zs.length cap):=by
  have:(w.drewN nq).cell? ⟨X,0,none⟩=some (.slice a zs.length cap):=by simpa using h0
  exact(World.cell?_setCell_other _ _ _ _ (by simp)).trans this
 generalize (w.drewN nq).setCell ⟨X,1,none⟩ (.int .i64 ((p:Int)+m))=W at *
 have hW:Below W.heap.size W W.drew:=(Below.refl _ _).drew
 have hRd:Rf B W.drew X zs (p+m) 0:=hRf.below hW
 have hrd:RowAt W.drew a zs:=(hrow.gb hgW (.inr (zb6 hne))).below hW
 have hsz:w.heap.size≤W.drew.heap.size:=hgW.size
 clear h0 h1 h2 f1 hrow
 have hk0:∀w',Below W.drew.heap.size W.drew w'→w'.cell? ⟨X,0,none⟩=some (.slice a zs.length cap):=by
  intro w' hw
  have hb:=(zO (j:=0) (hw.block X hRd.1)).1
  rw[hb];exact HC0
 have hk1:∀w',Below W.drew.heap.size W.drew w'→w'.cell? ⟨X,1,none⟩=some (.int .i64 ((p:Int)+m)):=by
  intro w' hw
  have hb:=(zO (j:=1) (hw.block X hRd.1)).1
  have:=hRd.2.2.1
  have e:((p+m:Nat):Int)=(p:Int)+m:=by omega
  rw[hb,this,e]
 have hsrc:Src prog 1 59 (.slice (cutA a cap p) m (cap - p)) m (((zs.drop p).take m).map (Value.int .u8)) (W.drew.alloc (.cells #[] 5)):=by
  have hr:=(((hrd.drop p cap hpl hc).take m).below ((Below.refl _ _).alloc (Nat.le_refl _) (.cells #[] 5))).src (cap - p)
  have el:((zs.drop p).take m).length=m:=by rw[List.length_take,List.length_drop];omega
  rw[el]at hr;exact hr
 refine zk3 18 rfl (by kernel_rfl) ?_
 have hS:=Below.refl (W.drew).heap.size W.drew
 refine zau (i:=1) (d:=some 40) (v:=?_) rfl (by kernel_rfl) (by kernel_rfl) (by kernel_rfl) (by rfl) ?_ (by assumption) rfl ?_
 rotate_left
 ·intro w' hw
  go_simp
  try with_reducible rfl
 simp only[nz]
 refine zau (i:=2) (d:=some 41) (v:=?_) rfl (by kernel_rfl) (by kernel_rfl) (by kernel_rfl) (by rfl) ?_ (by assumption) rfl ?_
 rotate_left
 ·intro w' hw
  go_simp
  try with_reducible rfl
 simp only[nz]
 refine zau (i:=3) (d:=some 42) (v:=?_) rfl (by kernel_rfl) (by kernel_rfl) (by kernel_rfl) (by rfl) ?_ (by assumption) rfl ?_
 rotate_left
 ·intro w' hw
  go_simp
  try with_reducible rfl
 simp only[nz]
 refine zau (i:=4) (d:=some 43) (v:=?_) rfl (by kernel_rfl) (by kernel_rfl) (by kernel_rfl) (by rfl) ?_ (by assumption) rfl ?_
 rotate_left
 ·intro w' hw
  have c0:=hk0 w' hw
  have c1:=hk1 w' hw
  go_simp
  try with_reducible rfl
 simp only[nz]
 refine zau (i:=5) (d:=some 44) (v:=?_) rfl (by kernel_rfl) (by kernel_rfl) (by kernel_rfl) (by rfl) ?_ (by assumption) rfl ?_
 rotate_left
 ·intro w' hw
  go_simp
  try with_reducible rfl
 simp only[nz]
 refine zau (i:=6) (d:=some 45) (v:=?_) rfl (by kernel_rfl) (by kernel_rfl) (by kernel_rfl) (by rfl) ?_ (by assumption) rfl ?_
 rotate_left
 ·intro w' hw
  go_simp
  try with_reducible rfl
 simp only[nz]
 refine zau (i:=7) (d:=some 46) (v:=?_) rfl (by kernel_rfl) (by kernel_rfl) (by kernel_rfl) (by rfl) ?_ (by assumption) rfl ?_
 rotate_left
 ·intro w' hw
  go_simp
  try with_reducible rfl
 simp only[nz]
 refine zau (i:=8) (d:=some 47) (v:=?_) rfl (by kernel_rfl) (by kernel_rfl) (by kernel_rfl) (by rfl) ?_ (by assumption) rfl ?_
 rotate_left
 ·intro w' hw
  have c0:=hk0 w' hw
  have c1:=hk1 w' hw
  go_simp
  try with_reducible rfl
 simp only[nz]
 refine zau (i:=9) (d:=some 48) (v:=?_) rfl (by kernel_rfl) (by kernel_rfl) (by kernel_rfl) (by rfl) ?_ (by assumption) rfl ?_
 rotate_left
 ·intro w' hw
  go_simp
  try with_reducible rfl
 simp only[nz]
 refine zau (i:=10) (d:=some 49) (v:=.int .i64 (p:Int)) rfl (by kernel_rfl) (by kernel_rfl) (by kernel_rfl) (by rfl) ?_ (by assumption) rfl ?_
 ·intro w' hw
  go_simp
 simp only[nz]
 refine zau (i:=11) (d:=some 50) (v:=?_) rfl (by kernel_rfl) (by kernel_rfl) (by kernel_rfl) (by rfl) ?_ (by assumption) rfl ?_
 rotate_left
 ·intro w' hw
  go_simp
  try with_reducible rfl
 simp only[nz]
 refine zau (i:=12) (d:=some 51) (v:=?_) rfl (by kernel_rfl) (by kernel_rfl) (by kernel_rfl) (by rfl) ?_ (by assumption) rfl ?_
 rotate_left
 ·intro w' hw
  go_simp
  try with_reducible rfl
 simp only[nz]
 refine zau (i:=13) (d:=some 52) (v:=?_) rfl (by kernel_rfl) (by kernel_rfl) (by kernel_rfl) (by rfl) ?_ (by assumption) rfl ?_
 rotate_left
 ·intro w' hw
  go_simp
  try with_reducible rfl
 simp only[nz]
 refine zau (i:=14) (d:=some 53) (v:=?_) rfl (by kernel_rfl) (by kernel_rfl) (by kernel_rfl) (by rfl) ?_ (by assumption) rfl ?_
 rotate_left
 ·intro w' hw
  have c0:=hk0 w' hw
  have c1:=hk1 w' hw
  go_simp
  try with_reducible rfl
 simp only[nz]
 refine zau (i:=15) (d:=some 54) (v:=.slice (cutA a cap p) m (cap - p)) rfl (by kernel_rfl) (by kernel_rfl) (by kernel_rfl) (by rfl) ?_ (by assumption) rfl ?_
 ·intro w' hw
  go_simp
  rw[if_pos (by omega),if_pos (by omega)]
  have e1:((p:Int)+m).toNat - p=m:=by omega
  rw[e1]
  simp only[cutA]
 simp only[nz]
 refine zgP (i:=0) (d:=some 39) (v:=.slice (some ⟨W.drew.heap.size,0,none⟩) 0 0) (w':=W.drew.alloc (.cells #[] 5)) rfl (by kernel_rfl) (by rfl) (by go_simp;try with_reducible rfl) rfl ?_ ?_
 ·exact(Below.refl _ _).alloc (Nat.le_refl _) _
 simp only[nz]
 obtain⟨v',w',hrun,hown,hgrow⟩:=zcG (P:=prog) (W.drew.alloc (.cells #[] 5)) W.drew.heap.size 59 59 59 5 i0 (.int .u8 0) 1 1 underlying59 hi hz0 hz1 hz2 rfl (.slice (some ⟨W.drew.heap.size,0,none⟩) 0 0) 0 [] (World.ownsRow_made W.drew #[] 0 (Nat.le_refl _) (by simp) (by simp)) (.slice (cutA a cap p) m (cap - p)) m (((zs.drop p).take m).map (Value.int .u8)) hsrc (by unfold maxLen;omega) (by omega) (by simp)
 have hb1:Below W.drew.heap.size W.drew w':=((Below.refl _ _).alloc (Nat.le_refl _) _).grown hgrow (by simp) (fun k hk=>by simp[Value.ownBlock]at hk;have:W.drew.heap.size=W.heap.size:=rfl;omega)
 refine zgP (i:=16) (d:=some 55) (v:=v') (w':=w') rfl (by kernel_rfl) (by rfl) (zb1 rfl rfl rfl hrun) rfl hb1 ?_
 simp only[nz]
 refine zau (i:=17) (d:=some 4) (v:=?_) rfl (by kernel_rfl) (by kernel_rfl) (by kernel_rfl) (by rfl) ?_ (by assumption) rfl ?_
 rotate_left
 ·intro w' hw
  go_simp
  try with_reducible rfl
 simp only[nz]
 refine zk2 (by kernel_rfl) ?_
 go_wp2_with fail
 go_ret
 have el:((zs.drop p).take m).length=m:=by rw[List.length_take,List.length_drop];omega
 have hM:Mine w' W.drew.heap.size v' ((zs.drop p).take m):=Mine.mk' _ hown (by rw[el];omega) (by simp) (fun z hz=>hrd.2.1 z (List.mem_of_mem_drop (List.mem_of_mem_take hz)))
 exact⟨_,rfl,hM.mono' hsz,⟨zs,p+m,hRd.below hb1,fun _=>rfl⟩,zr hgW (zW (hW.trans hb1) _)⟩
theorem zdJ (X:Nat) (rest:List Int) (e n:Int) (w:World) (h:RSt B w X rest e):
  Calls prog 46 #[.pointer (some ⟨X,0,none⟩),.int .i64 n] w fun en w'=>∃v,en=.returned v∧Mine w' w.heap.size v (rawS rest e n).1∧RSt B w' X (rawS rest e n).2.1 (rawS rest e n).2.2∧w.grownBy w' (some X):=by
 obtain⟨zs,p,hR,hd⟩:=h
 have hl5:=hR.2.2.2.2.2.2.2.2
 have hpl:=hR.2.2.2.2.2.2.2.1
 by_cases he:e=0
 ·subst he
  have hd:=hd rfl
  subst hd
  by_cases hn:n<0
  ·have HS:Hid (rawS (zs.drop p) 0 n=([],zs.drop p,2)):=by show _=_;unfold rawS;rw[if_pos rfl,if_pos hn]
   have h2:=hR.2.2.2.1
   have f2:=hR.2.2.2.2.2.2.1
   go_enter func46,ntmps46
   go_wp2_with fail
   go_ret
   rw[HS.out]
   exact⟨_,rfl,Mine.nil _ _,⟨zs,p,hR.set2 2,fun h=>by cases h⟩,zM _ X 2 _⟩
  ·by_cases hf:(zs.length:Int) - p<n
   ·have HS:Hid (rawS (zs.drop p) 0 n=([],zs.drop p,10)):=by show _=_;unfold rawS;rw[if_pos rfl,if_neg hn,if_pos (by rw[List.length_drop];omega)]
    have h2:=hR.2.2.2.1
    have h1:=hR.2.2.1
    have f2:=hR.2.2.2.2.2.2.1
    obtain⟨a,cap,h0,hc,hm,hr⟩:=hR.rest
    go_enter func46,ntmps46
    go_wp2_with fail
    go_quiet (fail)
    go_wp2_with fail
    go_ret
    rw[HS.out]
    exact⟨_,rfl,Mine.nil _ _,⟨zs,p,(hR.drewN nq).set2 10,fun h=>by cases h⟩,zr (zax w nq _) (zM _ X 2 _)⟩
   ·obtain⟨m,rfl⟩:=Int.eq_ofNat_of_zero_le (Int.not_lt.1 hn)
    have e1:rawS (zs.drop p) 0 (m:Int)=((zs.drop p).take m,zs.drop (p+m),0):=by
     unfold rawS;rw[if_pos rfl,if_neg hn,if_neg (by rw[List.length_drop];omega),Int.toNat_natCast,List.drop_drop]
    rw[e1]
    exact zjB X zs p w hR m (by omega)
 ·have HS:Hid (rawS rest e n=([],rest,e)):=by show _=_;unfold rawS;rw[if_neg he]
  have he':(e==0)=false:=by simpa using he
  have h2:=hR.2.2.2.1
  go_enter func46,ntmps46
  go_wp2_with fail
  go_ret
  rw[HS.out]
  exact⟨_,rfl,Mine.nil _ _,⟨zs,p,hR,fun h=>absurd h he⟩,zaK _ _⟩
end Go.Proofs.YtcbpbkefggekmaaGreatDoor
namespace Go.Proofs.YtcbpbkefggekmaaGreatDoor
open Go.RowKit
open Sha Tal
theorem RdE.gb {w w':World} {R:Nat} {e:Int} {r:Option Nat} (h:RdE w R e) (hg:w.grownBy w' r) (hr:some R≠r):RdE w' R e:=
 h.below (hg.block R h.1 hr) hg.size
theorem St.gb {w w':World} {R g:Nat} {rest:List Int} {e:Int} (h:St w R rest e) (hg:w.grownBy w' (some g)) (hr:R<g):St w' R rest e:=by
 refine⟨h.1.gb hg (by intro q;injection q with q;omega),fun he=>?_⟩
 obtain⟨a,cap,h0,hc,hm,hrow,hlt⟩:=h.2 he
 refine⟨a,cap,(zO (hg.block R h.1.1 (by intro q;injection q with q;omega))).1.trans h0,hc,hm,hrow.gb hg (.inr (fun x hx=>by have:=hlt x hx;omega)),hlt⟩
theorem RSt.gb {B:Nat} {w w':World} {X g:Nat} {rest:List Int} {e:Int} (h:RSt B w X rest e) (hg:w.grownBy w' (some g)) (hr:g<B∧g≠X∨X<g):RSt B w' X rest e:=by
 obtain⟨zs,p,⟨hX,⟨a,cap,h0,hc,hm,hrow,hlt⟩,h1,h2,f0,f1,f2,hp,hl⟩,hd⟩:=h
 have hne:some X≠some g:=by intro q;injection q with q;omega
 have hk:=fun j=>@zO w w' X j (hg.block X hX hne)
 exact⟨zs,p,⟨Nat.lt_of_lt_of_le hX hg.size,⟨a,cap,(hk 0).1.trans h0,hc,hm,hrow.gb hg (.inr (fun x hx=>by have:=hlt x hx;omega)),hlt⟩,(hk 1).1.trans h1,(hk 2).1.trans h2,(hk 0).2.trans f0,(hk 1).2.trans f1,(hk 2).2.trans f2,hp,hl⟩,hd⟩
structure Kept (w:World) (R X:Nat) (W:World):Prop where
 os:W.os=w.os
 tape:W.tape=w.tape
 output:W.output=w.output
 size:w.heap.size≤W.heap.size
 block:∀k,k<w.heap.size→k≠R→k≠X→W.heap[k]? =w.heap[k]?
theorem Kept.refl (w:World) (R X:Nat):Kept w R X w:=⟨rfl,rfl,rfl,Nat.le_refl _,fun _ _ _ _=>rfl⟩
theorem Kept.gb {w W W':World} {R X g:Nat} (h:Kept w R X W) (hg:W.grownBy W' (some g)) (hr:g=R∨g=X∨w.heap.size≤g):Kept w R X W':=
 ⟨hg.os.trans h.os,hg.tape.trans h.tape,hg.output.trans h.output,Nat.le_trans h.size hg.size,fun k hk k1 k2=>(hg.block k (Nat.lt_of_lt_of_le hk h.size) (by intro q;injection q with q;omega)).trans (h.block k hk k1 k2)⟩
theorem Kept.below {w W W':World} {R X:Nat} (h:Kept w R X W) (hb:Below W.heap.size W W'):Kept w R X W':=
 ⟨hb.os.trans h.os,hb.tape.trans h.tape,hb.output.trans h.output,Nat.le_trans h.size hb.size,fun k hk k1 k2=>(hb.block k (Nat.lt_of_lt_of_le hk h.size)).trans (h.block k hk k1 k2)⟩
theorem Kept.to {w0 w W:World} {R X:Nat} (h:Kept w R X W) (hb:Below w0.heap.size w0 w) (hR:w0.heap.size≤R) (hX:w0.heap.size≤X):Below w0.heap.size w0 W:=
 ⟨h.os.trans hb.os,h.tape.trans hb.tape,h.output.trans hb.output,Nat.le_trans hb.size h.size,fun k hk=>(h.block k (Nat.lt_of_lt_of_le hk hb.size) (by omega) (by omega)).trans (hb.block k hk)⟩
structure Two (B:Nat) (w:World) (R X:Nat) (W:World) (rest:List Int) (e:Int):Prop where
 own:St W R rest e
 doc:RSt B W X rest e
 kept:Kept w R X W
theorem zgi (zs:List Int) (hz:∀z∈zs,0≤z∧z<256):0≤(numR zs).1:=by
  cases zs with
  |nil=>simp[numR]
  |cons k tl=>
    simp only[numR]
    split
    · simp
    · split
      · simp
      · split
        · have hb:=za8 (tl.take k.toNat) (fun z hzz=>hz z (List.mem_cons_of_mem _ (List.mem_of_mem_take hzz)))
          simp only[valR]
          split
          · simp
          · exact hb.1
        · simp
theorem St.pos {w:World} {R:Nat} {rest:List Int} {e:Int} (h:St w R rest e):0≤(numS rest e 9223372036854775807).1:=by
 unfold numS
 by_cases he:e=0
 ·rw[if_pos he]
  obtain⟨a,cap,h0,hc,hm,hrow,hlt⟩:=h.2 he
  have:=zgi rest hrow.2.1
  split
  ·split
   ·simp
   ·exact this
  ·simp
 ·rw[if_neg he];simp
open Go.RowKit
open Sha Tal
set_option linter.unusedVariables false
set_option linter.unusedSimpArgs false
theorem zcs {P:Program} {t:TypeId} {zs:List Value} {pl:Array (Nat ×Nat)} {w:World} (hz:(zeroValue t).run P w=.ok (.agg zs.toArray) w) (hu:P.underlying t=some (.struct (P.fieldsOf t)))
  (hp:(((P.fieldsOf t).mapM fun f=>do pure (f.offset,←sizeOf f.type):Sem (Array (Nat ×Nat)))).run P w=.ok pl w) (parts:Array (Nat ×Value)) (cs:List Value) (h:Instr.fill (pl[·]?) zs.toArray parts.toList=some cs.toArray):(Instr.build t parts).run P w=.ok (.agg cs.toArray) w:=by
 unfold Instr.build
 simp only[Sem.run_bind,hz,Result.andThen_ok,run_underlying hu]
 rw[hp]
 simp only[Result.andThen_ok,Value.cells]
 rw[h]
 rfl
theorem zd3 {pl:Array (Nat ×Nat)} {n m:Nat} {z1 z2 c1 c2:List Value} {v1 v2:Value} (h0:pl[0]? =some (0,n)) (h1:pl[1]? =some (n,m)) (l1:z1.length=n) (l2:z2.length=m) (k1:c1.length=n) (k2:c2.length=m) (e1:v1.cells=c1.toArray) (e2:v2.cells=c2.toArray):
  Instr.fill (pl[·]?) (z1++z2).toArray [(0,v1),(1,v2)]=some (c1++c2).toArray:=by
 have s1:z1++z2=[]++(z1++z2):=rfl
 rw[s1,zbq (off:=0) (n:=n) (vs:=c1) h0 l1 rfl e1 k1]
 have s2:[]++(c1++z2)=c1++(z2++[]):=by simp
 rw[s2,zbq (off:=n) (n:=m) (vs:=c2) h1 l2 k1 e2 k2]
 simp[Instr.fill]
theorem zeroSgE (w:World):(zeroValue 133).run prog w=.ok (.agg ([Value.int .i64 0]++v8 (List.replicate 16 0)).toArray) w:=by kernel_rfl
theorem zhr (n:Int) (t:List Value) (ht:t.length=16) (w:World):(Instr.build 133 #[(0,.int .i64 n),(1,.agg t.toArray)]).run prog w=.ok (.agg (.int .i64 n::t).toArray) w:=
 zcs (zs:=[Value.int .i64 0]++v8 (List.replicate 16 0)) (pl:=#[(0,1),(1,16)]) (zeroSgE w) (by kernel_rfl) (by kernel_rfl) _ _ (zd3 (c1:=[.int .i64 n]) rfl rfl rfl rfl rfl ht rfl rfl)
theorem zI {P:Program} {o:Oper} {a:Act} {w:World} {t:TypeId} {parts:List (Nat ×Operand)} {vs:List (Nat ×Value)} {v:Value} (ho:o.op=.build t parts.toArray) (hv:(parts.map fun(x:Nat ×Operand)=>(x.1,a.eval x.2))=vs)
  (hr:(Instr.build t vs.toArray).run P w=.ok v w):(execOp a.eval o).run P w=.ok (.value v) w:=by
 subst hv
 have e:Array.map (fun(x:Nat ×Operand)=>(x.1,a.eval x.2)) parts.toArray=(parts.map fun(x:Nat ×Operand)=>(x.1,a.eval x.2)).toArray:=by simp
 unfold execOp
 simp only[ho]
 rw[show(Instr.build t (Array.map (fun x=>match x with|(i,x)=>(i,a.eval x)) parts.toArray))=Instr.build t (parts.map fun(x:Nat ×Operand)=>(x.1,a.eval x.2)).toArray from congrArg _ e]
 simp only[Sem.run_bind,hr,Result.andThen_ok,Sem.run_pure]
theorem zeroEvE (w:World):(zeroValue 25).run prog w=.ok (.agg ([Value.int .i64 0]++([Value.string ⟨#[]⟩]++v8 (List.replicate 16 0))).toArray) w:=by kernel_rfl
theorem zg1 {pl:Array (Nat ×Nat)} {n m k:Nat} {z1 z2 z3 c1 c2 c3:List Value} {v1 v2 v3:Value} (h0:pl[0]? =some (0,n)) (h1:pl[1]? =some (n,m)) (h2:pl[2]? =some (n+m,k)) (l1:z1.length=n) (l2:z2.length=m) (l3:z3.length=k) (k1:c1.length=n) (k2:c2.length=m) (k3:c3.length=k) (e1:v1.cells=c1.toArray) (e2:v2.cells=c2.toArray) (e3:v3.cells=c3.toArray):
  Instr.fill (pl[·]?) (z1++(z2++z3)).toArray [(0,v1),(1,v2),(2,v3)]=some (c1++(c2++c3)).toArray:=by
 have s1:z1++(z2++z3)=[]++(z1++(z2++z3)):=rfl
 rw[s1,zbq (off:=0) (n:=n) (vs:=c1) h0 l1 rfl e1 k1]
 have s2:[]++(c1++(z2++z3))=c1++(z2++z3):=by simp
 rw[s2,zbq (off:=n) (n:=m) (vs:=c2) h1 l2 k1 e2 k2]
 have s3:c1++(c2++z3)=(c1++c2)++(z3++[]):=by simp
 rw[s3,zbq (off:=n+m) (n:=k) (vs:=c3) h2 l3 (by simp[k1,k2]) e3 k3]
 simp[Instr.fill]
theorem zdb (n:Int) (b:ByteArray) (t:List Value) (ht:t.length=16) (w:World):(Instr.build 25 #[(0,.int .i64 n),(1,.string b),(2,.agg t.toArray)]).run prog w=.ok (.agg (.int .i64 n::.string b::t).toArray) w:=
 zcs (zs:=[Value.int .i64 0]++([Value.string ⟨#[]⟩]++v8 (List.replicate 16 0))) (pl:=#[(0,1),(1,1),(2,16)]) (zeroEvE w) (by kernel_rfl) (by kernel_rfl) _ _ (zg1 (c1:=[.int .i64 n]) (c2:=[.string b]) rfl rfl rfl rfl rfl rfl rfl rfl ht rfl rfl rfl)
def sgS (rest:List Int) (e:Int):Sg ×List Int ×Int:=
 let x1:=numS rest e 64
 let x2:=rawS x1.2.1 x1.2.2 16
 (⟨x1.1,padN 16 x2.1⟩,x2.2.1,x2.2.2)
def evS (rest:List Int) (e:Int):Ev ×List Int ×Int:=
 let x1:=numS rest e 64
 let x2:=textS x1.2.1 x1.2.2 4194304
 let x3:=rawS x2.2.1 x2.2.2 16
 (⟨x1.1,strOf x2.1,padN 16 x3.1⟩,x3.2.1,x3.2.2)
theorem ziT (rest:List Int) (e:Int):(sgS rest e).2.1.length≤rest.length:=Nat.le_trans (zcK _ _ _) (zak _ _ _)
theorem zlE (rest:List Int) (e:Int):(evS rest e).2.1.length≤rest.length:=Nat.le_trans (zcK _ _ _) (Nat.le_trans (zcB _ _ _) (zak _ _ _))
theorem zi9 (Q R:Nat) (z:Bool) (rest:List Int) (e:Int) (w:World) (h:St w R rest e) (hq:MrAt w Q R z) (hl:rest.length≤40000):Calls prog 116 #[.pointer (some ⟨Q,0,none⟩)] w fun en w'=>en=.returned (.agg (sgS rest e).1.cells.toArray)∧St w' R (sgS rest e).2.1 (sgS rest e).2.2∧w.grownBy w' (some R):=by
 obtain⟨zc,hzl,hzr⟩:=zeroSg
 have hRw:=h.1.1
 have hQw:=hq.lt
 have l1:=zak rest e 64
 have cn:=fun w0 h0=>zaI R rest e 64 w0 h0
 show Calls prog 116 _ w fun en w'=>en=.returned (.agg (Value.int .i64 (numS rest e 64).1::v8 (padN 16 (rawS (numS rest e 64).2.1 (numS rest e 64).2.2 16).1)).toArray)∧St w' R (rawS (numS rest e 64).2.1 (numS rest e 64).2.2 16).2.1 (rawS (numS rest e 64).2.1 (numS rest e 64).2.2 16).2.2∧w.grownBy w' (some R)
 obtain⟨v1,hv1⟩:∃x,(numS rest e 64).1=x:=⟨_,rfl⟩
 obtain⟨r1,hr1'⟩:∃x,(numS rest e 64).2.1=x:=⟨_,rfl⟩
 obtain⟨e1,he1⟩:∃x,(numS rest e 64).2.2=x:=⟨_,rfl⟩
 simp only[hv1,hr1',he1]at l1 cn ⊢
 clear hv1 hr1' he1
 have ct:=fun w0 h0 hq0=>zft Q R z r1 e1 w0 h0 hq0 (by omega)
 have htl:(v8 (padN 16 (rawS r1 e1 16).1)).length=16:=by rw[v8_length,zaf]
 have hp1:∀v∈(Value.int .i64 v1::v8 (padN 16 (rawS r1 e1 16).1)),v.oneCell'=true:=SgE.one ⟨v1,padN 16 (rawS r1 e1 16).1⟩
 obtain⟨t,htt⟩:∃t,v8 (padN 16 (rawS r1 e1 16).1)=t:=⟨_,rfl⟩
 obtain⟨r2,hr2'⟩:∃x,(rawS r1 e1 16).2.1=x:=⟨_,rfl⟩
 obtain⟨e2,he2⟩:∃x,(rawS r1 e1 16).2.2=x:=⟨_,rfl⟩
 simp only[htt,hr2',he2]at ct htl hp1 ⊢
 clear htt hr2' he2
 have hbs:=fun w0=>zhr v1 t htl w0
 have hip:(prog.info? 133).map (·.size)=some (Value.int .i64 v1::t).length:=by simp only[List.length_cons,htl];exact iszSg
 have hpl:(Value.int .i64 v1::t).length=17:=by simp only[List.length_cons,htl]
 obtain⟨pc,hpc⟩:∃p,Value.int .i64 v1::t=p:=⟨_,rfl⟩
 simp only[hpc]at hbs hip hp1 hpl ⊢
 clear hpc htl
 obtain⟨hB1,hr1,hs1⟩:=zq w zc 133
 have ht1:=zi w zc.toArray 133 (n:=17) (by simp[hzl])
 go_enter func116,ntmps116
 go_upto_region 0 with fail
 refine pl_b ?_
 refine pl_r 2 (.pointer (some ⟨w.heap.size,0,none⟩)) (w.alloc (.cells zc.toArray 133)) (zo rfl (hzr _)) ?_
 refine za ?_
 obtain⟨W1,hW1⟩:∃W,w.alloc (.cells zc.toArray 133)=W:=⟨_,rfl⟩
 rw[hW1]at hB1 hr1 hs1 ht1 ⊢
 clear hW1 hr1 hzr hzl
 have st1:=h.below hB1
 have hq1:=hq.below hB1
 have g1:w.grownBy W1 (some R):=zW hB1 _
 go_upto_region 1 with fail
 refine pl_b ?_
 refine pl_a 3 ?_
 refine pl_a 4 ?_
 refine pl_a 5 ?_
 refine pl_v 6 (.pointer (some ⟨R,0,none⟩)) (zg rfl rfl hq1.c0 underlying98 rfl) ?_
 refine pl_c 7 ?_
 refine(cn W1 st1).mono ?_
 rintro _ w2 ⟨rfl,st2,g2⟩
 refine⟨_,rfl,?_⟩
 simp only[nz]
 refine pl_a 8 ?_
 refine pl_c 9 ?_
 refine(ct w2 st2 (hq1.gb g2)).mono ?_
 rintro _ w3 ⟨rfl,st3,g3⟩
 refine⟨_,rfl,?_⟩
 simp only[nz]
 refine pl_v 10 (.agg pc.toArray) (zI (parts:=[(0,.tmp 7),(1,.tmp 9)]) rfl rfl (hbs _)) ?_
 have g23:=zr g2 g3
 have thA:w3.there w.heap.size 0 17:=zJ ht1 g23 hs1 (by omega)
 have gc:=zr g1 g23
 have sc:=st3
 refine pl_s (w3.setCells w.heap.size 0 pc) (zf (cs:=pc.toArray) rfl rfl rfl (by simpa [hpl]using thA) (by simpa using hip) (zh hp1)) ?_
 refine za ?_
 have gf:=zu gc (ze (B:=w.heap.size) (b:=w.heap.size) (Nat.le_refl _) pc 0 _ (Below.refl _ w3)) (Nat.le_refl _)
 have sf:St (w3.setCells w.heap.size 0 pc) R _ _:=sc.belowN (n:=w.heap.size) (ze (Nat.le_refl _) pc 0 _ (Below.refl _ w3)) hRw
 have hrs:=run_loadVar_mid (P:=prog) (w3.setCells w.heap.size 0 pc) w.heap.size 0 133 pc _ (World.rangeAt_setCells_same w3 w.heap.size 0 pc (by rw[hpl];exact thA)) underlying133 rfl hip
 clear sc gc
 go_wp2_with fail
 refine bodyPost_ret (v:=.agg pc.toArray) ?_ rfl ?_
 ·simp[results,results116,Act.put,asAddr,hrs]
 ·exact⟨rfl,sf,gf⟩
theorem zjy (Q R:Nat) (z:Bool) (rest:List Int) (e:Int) (w:World) (h:St w R rest e) (hq:MrAt w Q R z) (hl:rest.length≤40000):Calls prog 112 #[.pointer (some ⟨Q,0,none⟩)] w fun en w'=>en=.returned (.agg (evS rest e).1.cells.toArray)∧St w' R (evS rest e).2.1 (evS rest e).2.2∧w.grownBy w' (some R):=by
 obtain⟨zc,hzl,hzr⟩:=zeroEv
 have hRw:=h.1.1
 have hQw:=hq.lt
 have l1:=zak rest e 64
 have cn:=fun w0 h0=>zaI R rest e 64 w0 h0
 have l2:=zcB (numS rest e 64).2.1 (numS rest e 64).2.2 4194304
 have cx:=fun w0 h0=>zdp R (numS rest e 64).2.1 (numS rest e 64).2.2 4194304 w0 h0 h0.pos
 show Calls prog 112 _ w fun en w'=>en=.returned (.agg (Value.int .i64 (numS rest e 64).1::.string (strOf (textS (numS rest e 64).2.1 (numS rest e 64).2.2 4194304).1)::v8 (padN 16 (rawS (textS (numS rest e 64).2.1 (numS rest e 64).2.2 4194304).2.1 (textS (numS rest e 64).2.1 (numS rest e 64).2.2 4194304).2.2 16).1)).toArray)∧St w' R (rawS (textS (numS rest e 64).2.1 (numS rest e 64).2.2 4194304).2.1 (textS (numS rest e 64).2.1 (numS rest e 64).2.2 4194304).2.2 16).2.1 (rawS (textS (numS rest e 64).2.1 (numS rest e 64).2.2 4194304).2.1 (textS (numS rest e 64).2.1 (numS rest e 64).2.2 4194304).2.2 16).2.2∧w.grownBy w' (some R)
 obtain⟨v1,hv1⟩:∃x,(numS rest e 64).1=x:=⟨_,rfl⟩
 obtain⟨r1,hr1'⟩:∃x,(numS rest e 64).2.1=x:=⟨_,rfl⟩
 obtain⟨e1,he1⟩:∃x,(numS rest e 64).2.2=x:=⟨_,rfl⟩
 simp only[hv1,hr1',he1]at l1 cn l2 cx ⊢
 clear hv1 hr1' he1
 obtain⟨v2,hv2⟩:∃x,strOf (textS r1 e1 4194304).1=x:=⟨_,rfl⟩
 obtain⟨r2,hr2'⟩:∃x,(textS r1 e1 4194304).2.1=x:=⟨_,rfl⟩
 obtain⟨e2,he2⟩:∃x,(textS r1 e1 4194304).2.2=x:=⟨_,rfl⟩
 simp only[hv2,hr2',he2]at l2 cx ⊢
 clear hv2 hr2' he2
 have ct:=fun w0 h0 hq0=>zft Q R z r2 e2 w0 h0 hq0 (by omega)
 have htl:(v8 (padN 16 (rawS r2 e2 16).1)).length=16:=by rw[v8_length,zaf]
 have hp1:∀v∈(Value.int .i64 v1::.string v2::v8 (padN 16 (rawS r2 e2 16).1)),v.oneCell'=true:=EvE.one ⟨v1,v2,padN 16 (rawS r2 e2 16).1⟩
 obtain⟨t,htt⟩:∃t,v8 (padN 16 (rawS r2 e2 16).1)=t:=⟨_,rfl⟩
 obtain⟨r3,hr3'⟩:∃x,(rawS r2 e2 16).2.1=x:=⟨_,rfl⟩
 obtain⟨e3,he3⟩:∃x,(rawS r2 e2 16).2.2=x:=⟨_,rfl⟩
 simp only[htt,hr3',he3]at ct htl hp1 ⊢
 clear htt hr3' he3
 have hbs:=fun w0=>zdb v1 v2 t htl w0
 have hip:(prog.info? 25).map (·.size)=some (Value.int .i64 v1::.string v2::t).length:=by simp only[List.length_cons,htl];exact iszEv
 have hpl:(Value.int .i64 v1::.string v2::t).length=18:=by simp only[List.length_cons,htl]
 obtain⟨pc,hpc⟩:∃p,Value.int .i64 v1::.string v2::t=p:=⟨_,rfl⟩
 simp only[hpc]at hbs hip hp1 hpl ⊢
 clear hpc htl
 obtain⟨hB1,hr1,hs1⟩:=zq w zc 25
 have ht1:=zi w zc.toArray 25 (n:=18) (by simp[hzl])
 go_enter func112,ntmps112
 go_upto_region 0 with fail
 refine pl_b ?_
 refine pl_r 2 (.pointer (some ⟨w.heap.size,0,none⟩)) (w.alloc (.cells zc.toArray 25)) (zo rfl (hzr _)) ?_
 refine za ?_
 obtain⟨W1,hW1⟩:∃W,w.alloc (.cells zc.toArray 25)=W:=⟨_,rfl⟩
 rw[hW1]at hB1 hr1 hs1 ht1 ⊢
 clear hW1 hr1 hzr hzl
 go_upto_region 1 with fail
 have hB8:=hB1.drew
 have ht8:W1.drew.there w.heap.size 0 18:=ht1
 have hs8:w.heap.size<W1.drew.heap.size:=hs1
 refine zC (S:=(fun W'=>MrAt W' Q R z)) 14 rfl (by kernel_rfl) ?_
 obtain⟨w8,hw8⟩:∃W,W1.drew=W:=⟨_,rfl⟩
 rw[hw8]at hB8 ht8 hs8 ⊢
 clear hw8
 have st8:=h.below hB8
 have g8:w.grownBy w8 (some R):=zW hB8 _
 have hS:(fun W'=>MrAt W' Q R z) w8:=hq.below hB8
 refine hs_a 0 3 hS ?_
 refine hs_a 1 4 hS ?_
 refine hs_a 2 5 hS ?_
 refine hs_v 3 6 (.pointer (some ⟨R,0,none⟩)) rfl (fun w' hw=>zg rfl rfl hw.c0 underlying98 rfl) hS ?_
 refine hs_a 5 8 hS ?_
 refine hs_a 6 9 hS ?_
 refine hs_a 7 10 hS ?_
 refine hs_v 8 11 (.pointer (some ⟨R,0,none⟩)) rfl (fun w' hw=>zg rfl rfl hw.c0 underlying98 rfl) hS ?_
 refine hs_a 10 13 hS ?_
 refine hs_c 4 7 ?_
 refine(cn w8 st8).mono ?_
 rintro _ w2 ⟨rfl,st2,g2⟩
 have hS:(fun W'=>MrAt W' Q R z) w2:=hS.gb g2
 refine⟨_,rfl,hS,?_⟩
 simp only[nz]
 refine hs_c 9 12 ?_
 refine(cx w2 st2).mono ?_
 rintro _ w3 ⟨rfl,st3,g3⟩
 have hS:(fun W'=>MrAt W' Q R z) w3:=hS.gb g3
 refine⟨_,rfl,hS,?_⟩
 simp only[nz]
 refine hs_c 11 14 ?_
 refine(ct w3 st3 hS).mono ?_
 rintro _ w4 ⟨rfl,st4,g4⟩
 have hS:(fun W'=>MrAt W' Q R z) w4:=hS.gb g4
 refine⟨_,rfl,hS,?_⟩
 simp only[nz]
 refine hs_v 12 15 (.agg pc.toArray) rfl (fun w' hw=>zI (parts:=[(0,.tmp 7),(1,.tmp 12),(2,.tmp 14)]) rfl rfl (hbs _)) hS ?_
 have g24:=zr (zr g2 g3) g4
 have thA:w4.there w.heap.size 0 18:=zJ ht8 g24 hs8 (by omega)
 have gc:=zr g8 g24
 have sc:=st4
 have hSE:(fun W'=>MrAt W' Q R z) (w4.setCells w.heap.size 0 pc):=hS.at (zaV (by omega)) (by rw[zF];exact Nat.le_refl _)
 refine zS (i:=13) (w':=w4.setCells w.heap.size 0 pc) rfl (by kernel_rfl) (by rfl) (zf (cs:=pc.toArray) rfl rfl rfl (by simpa [hpl]using thA) (by simpa using hip) (zh hp1)) rfl hSE ?_
 refine zv (by kernel_rfl) ?_
 have gf:=zu gc (ze (B:=w.heap.size) (b:=w.heap.size) (Nat.le_refl _) pc 0 _ (Below.refl _ w4)) (Nat.le_refl _)
 have sf:St (w4.setCells w.heap.size 0 pc) R _ _:=sc.belowN (n:=w.heap.size) (ze (Nat.le_refl _) pc 0 _ (Below.refl _ w4)) hRw
 have hrs:=run_loadVar_mid (P:=prog) (w4.setCells w.heap.size 0 pc) w.heap.size 0 25 pc _ (World.rangeAt_setCells_same w4 w.heap.size 0 pc (by rw[hpl];exact thA)) underlying25 rfl hip
 clear sc gc
 go_wp2_with fail
 refine bodyPost_ret (v:=.agg pc.toArray) ?_ rfl ?_
 ·simp[results,results112,Act.put,asAddr,hrs]
 ·exact⟨rfl,sf,gf⟩
open Go.RowKit
open Sha Tal
set_option linter.unusedVariables false
set_option linter.unusedSimpArgs false
theorem zaQ {w:World} {b n o m:Nat} (h:w.there b 0 n) (hm:o+m≤n):w.there b o m:=fun j hj=>by
 have:=h (o+j) (by omega)
 rwa [Nat.zero_add]at this
theorem zD {P:Program} {o:Oper} {a:Act} {w:World} {ty:TypeId} {x y:Operand} {b off n:Nat} {v:Value} (ho:o.op=.store ty x y) (hx:a.eval x=.pointer (some ⟨b,off,none⟩)) (hy:a.eval y=v) (ht:w.there b 0 n) (hn:off<n) (hi:(P.info? ty).map (·.size)=some 1) (hvc:v.cells=#[v]) (h1:v.oneCell'=true):(execOp a.eval o).run P w=.ok .skip (w.setCells b off [v]):=by
 refine za3 ho hx hy ?_
 have e:storeVar ty ⟨b,off,none⟩ v=storeVar ty ⟨b,off,none⟩ (.agg #[v]):=by unfold storeVar;rw[hvc];rfl
 rw[e,run_storeVar_mid w b off ty #[v] (zaQ ht (by simp;omega)) hi (by simpa using h1)]
theorem Kept.of {w W:World} {R Q:Nat} (hg:w.grownBy W (some R)):Kept w R Q W:=(Kept.refl w R Q).gb hg (.inl rfl)
theorem Kept.trans {w W W':World} {R Q:Nat} (h:Kept w R Q W) (k:Kept W R Q W'):Kept w R Q W':=
 ⟨k.os.trans h.os,k.tape.trans h.tape,k.output.trans h.output,Nat.le_trans h.size k.size,fun i hi k1 k2=>(k.block i (Nat.lt_of_lt_of_le hi h.size) k1 k2).trans (h.block i hi k1 k2)⟩
theorem Kept.newSets {w W:World} {R Q b:Nat} (h:Kept w R Q W) (hb:w.heap.size≤b) (o:Nat) (vs:List Value):Kept w R Q (W.setCells b o vs):=
 h.gb (zL W b vs o) (.inr (.inr hb))
theorem MrAt.zero {w:World} {Q R:Nat} {z:Bool} (h:MrAt w Q R z):MrAt (w.setCells Q 1 [.bool true]) Q R true:=by
  have h1:=h.lt
  have hT:w.there Q 1 [Value.bool true].length:=fun j hj=>by
    obtain rfl:j=0:=by simp at hj;omega
    exact⟨by show(w.cell? ⟨Q,1,none⟩).isSome=true;rw[h.c1];rfl,h.f1⟩
  refine⟨by rw[zF];exact h1,h.ne,?_,?_,?_⟩
  · have hr : w.rangeAt Q 0 [.pointer (some ⟨R, 0, none⟩)] := fun j v hv => by
      match j,hv with
      |0,hv=>cases hv;exact h.c0
    exact(World.rangeAt_setCells_apart hr Q 1 [.bool true] (.inr (.inl (by simp)))) 0 _ rfl
  · exact World.rangeAt_setCells_same w Q 1 [.bool true] hT 0 _ rfl
  · exact(World.there_setCells hT Q 1 [.bool true] 0 (by simp)).2
def kdZ (rest:List Int) (e most:Int) (z:Bool):Bool:=if(numS rest e most).1==0 then(if(numS rest e most).2.2==0 then true else z)else z
theorem zfE (Q R:Nat) (z:Bool) (rest:List Int) (e most:Int) (w:World) (h:St w R rest e) (hq:MrAt w Q R z) (thQ0:w.there Q 0 2):Calls prog 107 #[.pointer (some ⟨Q,0,none⟩),.int .i64 most] w fun en w'=>en=.returned (.int .i64 (numS rest e most).1)∧St w' R (numS rest e most).2.1 (numS rest e most).2.2∧MrAt w' Q R (kdZ rest e most z)∧Kept w R Q w'∧w'.there Q 0 2:=by
 have cn:=zaI R rest e most w h
 unfold kdZ
 obtain⟨v1,hv1⟩:∃x,(numS rest e most).1=x:=⟨_,rfl⟩
 obtain⟨r1,hr1⟩:∃x,(numS rest e most).2.1=x:=⟨_,rfl⟩
 obtain⟨e1,he1⟩:∃x,(numS rest e most).2.2=x:=⟨_,rfl⟩
 simp only[hv1,hr1,he1]at cn ⊢
 clear hv1 hr1 he1
 obtain⟨b0,hb0⟩:∃b,Hid ((v1==0)=b):=⟨_,hide rfl⟩
 obtain⟨b1,hb1⟩:∃b,Hid ((e1==0)=b):=⟨_,hide rfl⟩
 rw[hb0.out,hb1.out]
 obtain⟨zz,hzz⟩:∃x:Bool,Hid ((if b0=true then(if b1=true then true else z)else z)=x):=⟨_,hide rfl⟩
 rw[hzz.out]
 have hQl:=hq.lt
 have hne:=hq.ne
 go_enter func107,ntmps107
 go_upto_region 1 with fail
 refine pl_b ?_
 refine pl_a 6 ?_
 refine pl_a 7 ?_
 refine pl_a 8 ?_
 refine pl_v 9 (.pointer (some ⟨R,0,none⟩)) (zg rfl rfl hq.c0 underlying98 rfl) ?_
 refine pl_a 10 ?_
 refine pl_c 11 ?_
 refine(cn).mono ?_
 rintro _ w2 ⟨rfl,st2,g2⟩
 refine⟨_,rfl,?_⟩
 simp only[nz]
 refine pl_a 5 ?_
 refine za ?_
 have hq2:=hq.gb g2
 have thQ:=zJ thQ0 g2 hQl (by omega)
 clear cn
 go_upto_region 2 with fail
 refine pl_b ?_
 refine pl_a 12 ?_
 refine pl_v 13 (.bool b0) (by rw[←hb0.out];go_simp) ?_
 cases b0
 ·refine pl_a 14 ?_
  refine pl_k 15 ?_
  refine pl_k 16 ?_
  refine pl_k 17 ?_
  refine pl_k 18 ?_
  refine pl_k 19 ?_
  refine pl_k 20 ?_
  refine pl_a 21 ?_
  refine za ?_
  have HF:Hid (St w2 R r1 e1∧MrAt w2 Q R z∧Kept w R Q w2∧w2.there Q 0 2):=hide ⟨st2,hq2,Kept.of g2,thQ⟩
  go_wp2_with fail
  go_ret
  have e:=hzz.out;simp at e;subst e;exact⟨rfl,HF.out⟩
 ·refine pl_a 14 ?_
  refine pl_a 15 ?_
  refine pl_a 16 ?_
  refine pl_a 17 ?_
  refine pl_v 18 (.pointer (some ⟨R,0,none⟩)) (zg rfl rfl hq2.c0 underlying98 rfl) ?_
  refine pl_c 19 ?_
  refine(zav R e1 w2 st2.1).mono ?_
  rintro _ w3 ⟨rfl,hx⟩
  obtain rfl:=hx.symm
  clear hx
  refine⟨_,rfl,?_⟩
  simp only[nz]
  refine pl_v 20 (.bool b1) (by rw[←hb1.out];go_simp) ?_
  cases b1
  ·refine pl_a 21 ?_
   refine za ?_
   have HF:Hid (St w2 R r1 e1∧MrAt w2 Q R z∧Kept w R Q w2∧w2.there Q 0 2):=hide ⟨st2,hq2,Kept.of g2,thQ⟩
   go_wp2_with fail
   go_ret
   have e:=hzz.out;simp at e;subst e;exact⟨rfl,HF.out⟩
  ·refine pl_a 21 ?_
   refine za ?_
   go_upto_region 3 with fail
   refine pl_b ?_
   refine pl_a 22 ?_
   refine pl_a 23 ?_
   refine pl_a 24 ?_
   refine pl_s (w2.setCells Q 1 [.bool true]) (zD (n:=2) rfl rfl rfl thQ (by decide) (by kernel_rfl) rfl rfl) ?_
   refine za ?_
   have HF:Hid (St (w2.setCells Q 1 [.bool true]) R r1 e1∧MrAt (w2.setCells Q 1 [.bool true]) Q R true∧Kept w R Q (w2.setCells Q 1 [.bool true])∧(w2.setCells Q 1 [.bool true]).there Q 0 2):=hide ⟨st2.gb (zL w2 Q _ _) hq2.ne,hq2.zero,(Kept.of g2).gb (zL w2 Q _ _) (.inr (.inl rfl)),World.there_setCells thQ _ _ _⟩
   go_wp2_with fail
   go_ret
   have e:=hzz.out;simp at e;subst e;exact⟨rfl,HF.out⟩
end Go.Proofs.YtcbpbkefggekmaaGreatDoor
