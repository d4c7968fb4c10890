/- The document's reader: Raw.; Two readers of the same bytes, side by side.; the reader's signs and envelopes; the reader's kinds and votes; the reader's votes -/
import Derived.Test.YtcbpbkefggekmaaGreatDoorJE0
import Derived.Test.YtcbpbkefggekmaaGreatDoorJE6
set_option maxHeartbeats 1600000
set_option maxRecDepth 100000
open Go.Proofs.Tryz
namespace Go.Proofs.YtcbpbkefggekmaaGreatDoor
open Go.RowKit
open Sha Tal
variable {B : Nat}
theorem zh9 (X:Nat) (zs:List Int) (p:Nat) (w:World) (hR:Rf B w X zs p 0) (m:Nat) (hmc:p+m≤zs.length):
  Calls prog 46 #[.pointer (some ⟨X,0,none⟩),.int .i64 (m:Int)] w fun en w'=>∃v,en=.returned v∧Mine w' w.heap.size v ((zs.drop p).take m)∧RSt B w' X (zs.drop (p+m)) 0∧w.grownBy w' (some X):=by
 obtain⟨i0,hi,hz0,hz1,hz2⟩:=zT info8
 have hl5:=hR.2.2.2.2.2.2.2.2
 have hpl:=hR.2.2.2.2.2.2.2.1
 have h2:=hR.2.2.2.1
 have f1:=hR.2.2.2.2.2.1
 have h1:=hR.2.2.1
 obtain⟨a,cap,h0,hc,hm,hrow,hne⟩:=id hR.2.1
 unfold maxLen at hm
 have hfew:¬((zs.length:Int) - p<m):=by omega
 have hn0:¬((m:Int)<0):=by omega
 go_enter func46,ntmps46
 go_wp2_with fail
 go_quiet (fail)
 go_wp2_with fail
 have hwrap:IntKind.i64.wrap (p:Int)=p:=by
  have e:(p:Int)%2^64=p:=by omega
  simp only[IntKind.wrap,IntKind.bits,IntKind.signed,e]
  rw[if_neg (by simp;omega)]
 have hRf:Rf B ((w.drewN nq).setCell ⟨X,1,none⟩ (.int .i64 ((p:Int)+m))) X zs (p+m) 0:=by
  have:=(hR.drewN nq).set1 (p+m) hmc
  have e:((p+m:Nat):Int)=(p:Int)+m:=by omega
  rw[e]at this;exact this
 have hgW:w.grownBy ((w.drewN nq).setCell ⟨X,1,none⟩ (.int .i64 ((p:Int)+m))) (some X):=zt (zaw w nq _) (zN _ X 1 _)
 have HC0:((w.drewN nq).setCell ⟨X,1,none⟩ (.int .i64 ((p:Int)+m))).drew.cell? ⟨X,0,none⟩=some (.slice a zs.length cap):=by
  have:(w.drewN nq).cell? ⟨X,0,none⟩=some (.slice a zs.length cap):=by simpa using h0
  exact(World.cell?_setCell_other _ _ _ _ (by simp)).trans this
 generalize (w.drewN nq).setCell ⟨X,1,none⟩ (.int .i64 ((p:Int)+m))=W at *
 have hW:Below W.heap.size W W.drew:=(Below.refl _ _).drew
 have hRd:Rf B W.drew X zs (p+m) 0:=hRf.below hW
 have hrd:RowAt W.drew a zs:=(hrow.gb hgW (.inr (zbK hne))).below hW
 have hsz:w.heap.size≤W.drew.heap.size:=hgW.size
 clear h0 h1 h2 f1 hrow
 have hk0:∀w',Below W.drew.heap.size W.drew w'→w'.cell? ⟨X,0,none⟩=some (.slice a zs.length cap):=by
  intro w' hw
  have hb:=(zO (j:=0) (hw.block X hRd.1)).1
  rw[hb];exact HC0
 have hk1:∀w',Below W.drew.heap.size W.drew w'→w'.cell? ⟨X,1,none⟩=some (.int .i64 ((p:Int)+m)):=by
  intro w' hw
  have hb:=(zO (j:=1) (hw.block X hRd.1)).1
  have:=hRd.2.2.1
  have e:((p+m:Nat):Int)=(p:Int)+m:=by omega
  rw[hb,this,e]
 have hsrc:Src prog 1 59 (.slice (cutA a cap p) m (cap - p)) m (((zs.drop p).take m).map (Value.int .u8)) (W.drew.alloc (.cells #[] 5)):=by
  have hr:=(((hrd.drop p cap hpl hc).take m).below ((Below.refl _ _).alloc (Nat.le_refl _) (.cells #[] 5))).src (cap - p)
  have el:((zs.drop p).take m).length=m:=by rw[List.length_take,List.length_drop];omega
  rw[el]at hr;exact hr
 refine zjx 18 rfl (by kernel_rfl) ?_
 have hS:=Below.refl (W.drew).heap.size W.drew
 refine zas (i:=1) (d:=some 40) (v:=?_) rfl (by kernel_rfl) (by kernel_rfl) (by kernel_rfl) (by rfl) ?_ (by assumption) rfl ?_
 rotate_left
 ·intro w' hw
  go_simp
  try with_reducible rfl
 simp only[nz]
 refine zas (i:=2) (d:=some 41) (v:=?_) rfl (by kernel_rfl) (by kernel_rfl) (by kernel_rfl) (by rfl) ?_ (by assumption) rfl ?_
 rotate_left
 ·intro w' hw
  go_simp
  try with_reducible rfl
 simp only[nz]
 refine zas (i:=3) (d:=some 42) (v:=?_) rfl (by kernel_rfl) (by kernel_rfl) (by kernel_rfl) (by rfl) ?_ (by assumption) rfl ?_
 rotate_left
 ·intro w' hw
  go_simp
  try with_reducible rfl
 simp only[nz]
 refine zas (i:=4) (d:=some 43) (v:=?_) rfl (by kernel_rfl) (by kernel_rfl) (by kernel_rfl) (by rfl) ?_ (by assumption) rfl ?_
 rotate_left
 ·intro w' hw
  have c0:=hk0 w' hw
  have c1:=hk1 w' hw
  go_simp
  try with_reducible rfl
 simp only[nz]
 refine zas (i:=5) (d:=some 44) (v:=?_) rfl (by kernel_rfl) (by kernel_rfl) (by kernel_rfl) (by rfl) ?_ (by assumption) rfl ?_
 rotate_left
 ·intro w' hw
  go_simp
  try with_reducible rfl
 simp only[nz]
 refine zas (i:=6) (d:=some 45) (v:=?_) rfl (by kernel_rfl) (by kernel_rfl) (by kernel_rfl) (by rfl) ?_ (by assumption) rfl ?_
 rotate_left
 ·intro w' hw
  go_simp
  try with_reducible rfl
 simp only[nz]
 refine zas (i:=7) (d:=some 46) (v:=?_) rfl (by kernel_rfl) (by kernel_rfl) (by kernel_rfl) (by rfl) ?_ (by assumption) rfl ?_
 rotate_left
 ·intro w' hw
  go_simp
  try with_reducible rfl
 simp only[nz]
 refine zas (i:=8) (d:=some 47) (v:=?_) rfl (by kernel_rfl) (by kernel_rfl) (by kernel_rfl) (by rfl) ?_ (by assumption) rfl ?_
 rotate_left
 ·intro w' hw
  have c0:=hk0 w' hw
  have c1:=hk1 w' hw
  go_simp
  try with_reducible rfl
 simp only[nz]
 refine zas (i:=9) (d:=some 48) (v:=?_) rfl (by kernel_rfl) (by kernel_rfl) (by kernel_rfl) (by rfl) ?_ (by assumption) rfl ?_
 rotate_left
 ·intro w' hw
  go_simp
  try with_reducible rfl
 simp only[nz]
 refine zas (i:=10) (d:=some 49) (v:=.int .i64 (p:Int)) rfl (by kernel_rfl) (by kernel_rfl) (by kernel_rfl) (by rfl) ?_ (by assumption) rfl ?_
 ·intro w' hw
  go_simp
 simp only[nz]
 refine zas (i:=11) (d:=some 50) (v:=?_) rfl (by kernel_rfl) (by kernel_rfl) (by kernel_rfl) (by rfl) ?_ (by assumption) rfl ?_
 rotate_left
 ·intro w' hw
  go_simp
  try with_reducible rfl
 simp only[nz]
 refine zas (i:=12) (d:=some 51) (v:=?_) rfl (by kernel_rfl) (by kernel_rfl) (by kernel_rfl) (by rfl) ?_ (by assumption) rfl ?_
 rotate_left
 ·intro w' hw
  go_simp
  try with_reducible rfl
 simp only[nz]
 refine zas (i:=13) (d:=some 52) (v:=?_) rfl (by kernel_rfl) (by kernel_rfl) (by kernel_rfl) (by rfl) ?_ (by assumption) rfl ?_
 rotate_left
 ·intro w' hw
  go_simp
  try with_reducible rfl
 simp only[nz]
 refine zas (i:=14) (d:=some 53) (v:=?_) rfl (by kernel_rfl) (by kernel_rfl) (by kernel_rfl) (by rfl) ?_ (by assumption) rfl ?_
 rotate_left
 ·intro w' hw
  have c0:=hk0 w' hw
  have c1:=hk1 w' hw
  go_simp
  try with_reducible rfl
 simp only[nz]
 refine zas (i:=15) (d:=some 54) (v:=.slice (cutA a cap p) m (cap - p)) rfl (by kernel_rfl) (by kernel_rfl) (by kernel_rfl) (by rfl) ?_ (by assumption) rfl ?_
 ·intro w' hw
  go_simp
  rw[if_pos (by omega),if_pos (by omega)]
  have e1:((p:Int)+m).toNat - p=m:=by omega
  rw[e1]
  simp only[cutA]
 simp only[nz]
 refine zfx (i:=0) (d:=some 39) (v:=.slice (some ⟨W.drew.heap.size,0,none⟩) 0 0) (w':=W.drew.alloc (.cells #[] 5)) rfl (by kernel_rfl) (by rfl) (by go_simp;try with_reducible rfl) rfl ?_ ?_
 ·exact(Below.refl _ _).alloc (Nat.le_refl _) _
 simp only[nz]
 obtain⟨v',w',hrun,hown,hgrow⟩:=zc9 (P:=prog) (W.drew.alloc (.cells #[] 5)) W.drew.heap.size 59 59 59 5 i0 (.int .u8 0) 1 1 underlying59 hi hz0 hz1 hz2 rfl (.slice (some ⟨W.drew.heap.size,0,none⟩) 0 0) 0 [] (World.ownsRow_made W.drew #[] 0 (Nat.le_refl _) (by simp) (by simp)) (.slice (cutA a cap p) m (cap - p)) m (((zs.drop p).take m).map (Value.int .u8)) hsrc (by unfold maxLen;omega) (by omega) (by simp)
 have hb1:Below W.drew.heap.size W.drew w':=((Below.refl _ _).alloc (Nat.le_refl _) _).grown hgrow (by simp) (fun k hk=>by simp[Value.ownBlock]at hk;have:W.drew.heap.size=W.heap.size:=rfl;omega)
 refine zfx (i:=16) (d:=some 55) (v:=v') (w':=w') rfl (by kernel_rfl) (by rfl) (zcC rfl rfl rfl hrun) rfl hb1 ?_
 simp only[nz]
 refine zas (i:=17) (d:=some 4) (v:=?_) rfl (by kernel_rfl) (by kernel_rfl) (by kernel_rfl) (by rfl) ?_ (by assumption) rfl ?_
 rotate_left
 ·intro w' hw
  go_simp
  try with_reducible rfl
 simp only[nz]
 refine zjw (by kernel_rfl) ?_
 go_wp2_with fail
 go_ret
 have el:((zs.drop p).take m).length=m:=by rw[List.length_take,List.length_drop];omega
 have hM:Mine w' W.drew.heap.size v' ((zs.drop p).take m):=Mine.mk' _ hown (by rw[el];omega) (by simp) (fun z hz=>hrd.2.1 z (List.mem_of_mem_drop (List.mem_of_mem_take hz)))
 exact⟨_,rfl,hM.mono' hsz,⟨zs,p+m,hRd.below hb1,fun _=>rfl⟩,zt hgW (zW (hW.trans hb1) _)⟩
theorem zdf (X:Nat) (rest:List Int) (e n:Int) (w:World) (h:RSt B w X rest e):
  Calls prog 46 #[.pointer (some ⟨X,0,none⟩),.int .i64 n] w fun en w'=>∃v,en=.returned v∧Mine w' w.heap.size v (rawS rest e n).1∧RSt B w' X (rawS rest e n).2.1 (rawS rest e n).2.2∧w.grownBy w' (some X):=by
 obtain⟨zs,p,hR,hd⟩:=h
 have hl5:=hR.2.2.2.2.2.2.2.2
 have hpl:=hR.2.2.2.2.2.2.2.1
 by_cases he:e=0
 ·subst he
  have hd:=hd rfl
  subst hd
  by_cases hn:n<0
  ·have HS:Hid (rawS (zs.drop p) 0 n=([],zs.drop p,2)):=by show _=_;unfold rawS;rw[if_pos rfl,if_pos hn]
   have h2:=hR.2.2.2.1
   have f2:=hR.2.2.2.2.2.2.1
   go_enter func46,ntmps46
   go_wp2_with fail
   go_ret
   rw[HS.out]
   exact⟨_,rfl,Mine.nil _ _,⟨zs,p,hR.set2 2,fun h=>by cases h⟩,zN _ X 2 _⟩
  ·by_cases hf:(zs.length:Int) - p<n
   ·have HS:Hid (rawS (zs.drop p) 0 n=([],zs.drop p,10)):=by show _=_;unfold rawS;rw[if_pos rfl,if_neg hn,if_pos (by rw[List.length_drop];omega)]
    have h2:=hR.2.2.2.1
    have h1:=hR.2.2.1
    have f2:=hR.2.2.2.2.2.2.1
    obtain⟨a,cap,h0,hc,hm,hr⟩:=hR.rest
    go_enter func46,ntmps46
    go_wp2_with fail
    go_quiet (fail)
    go_wp2_with fail
    go_ret
    rw[HS.out]
    exact⟨_,rfl,Mine.nil _ _,⟨zs,p,(hR.drewN nq).set2 10,fun h=>by cases h⟩,zt (zaw w nq _) (zN _ X 2 _)⟩
   ·obtain⟨m,rfl⟩:=Int.eq_ofNat_of_zero_le (Int.not_lt.1 hn)
    have e1:rawS (zs.drop p) 0 (m:Int)=((zs.drop p).take m,zs.drop (p+m),0):=by
     unfold rawS;rw[if_pos rfl,if_neg hn,if_neg (by rw[List.length_drop];omega),Int.toNat_natCast,List.drop_drop]
    rw[e1]
    exact zh9 X zs p w hR m (by omega)
 ·have HS:Hid (rawS rest e n=([],rest,e)):=by show _=_;unfold rawS;rw[if_neg he]
  have he':(e==0)=false:=by simpa using he
  have h2:=hR.2.2.2.1
  go_enter func46,ntmps46
  go_wp2_with fail
  go_ret
  rw[HS.out]
  exact⟨_,rfl,Mine.nil _ _,⟨zs,p,hR,fun h=>absurd h he⟩,zaF _ _⟩
end Go.Proofs.YtcbpbkefggekmaaGreatDoor
namespace Go.Proofs.YtcbpbkefggekmaaGreatDoor
open Go.RowKit
open Sha Tal
theorem RdE.gb {w w':World} {R:Nat} {e:Int} {r:Option Nat} (h:RdE w R e) (hg:w.grownBy w' r) (hr:some R≠r):RdE w' R e:=
 h.below (hg.block R h.1 hr) hg.size
theorem St.gb {w w':World} {R g:Nat} {rest:List Int} {e:Int} (h:St w R rest e) (hg:w.grownBy w' (some g)) (hr:R<g):St w' R rest e:=by
 refine⟨h.1.gb hg (by intro q;injection q with q;omega),fun he=>?_⟩
 obtain⟨a,cap,h0,hc,hm,hrow,hlt⟩:=h.2 he
 refine⟨a,cap,(zO (hg.block R h.1.1 (by intro q;injection q with q;omega))).1.trans h0,hc,hm,hrow.gb hg (.inr (fun x hx=>by have:=hlt x hx;omega)),hlt⟩
theorem RSt.gb {B:Nat} {w w':World} {X g:Nat} {rest:List Int} {e:Int} (h:RSt B w X rest e) (hg:w.grownBy w' (some g)) (hr:g<B∧g≠X∨X<g):RSt B w' X rest e:=by
 obtain⟨zs,p,⟨hX,⟨a,cap,h0,hc,hm,hrow,hlt⟩,h1,h2,f0,f1,f2,hp,hl⟩,hd⟩:=h
 have hne:some X≠some g:=by intro q;injection q with q;omega
 have hk:=fun j=>@zO w w' X j (hg.block X hX hne)
 exact⟨zs,p,⟨Nat.lt_of_lt_of_le hX hg.size,⟨a,cap,(hk 0).1.trans h0,hc,hm,hrow.gb hg (.inr (fun x hx=>by have:=hlt x hx;omega)),hlt⟩,(hk 1).1.trans h1,(hk 2).1.trans h2,(hk 0).2.trans f0,(hk 1).2.trans f1,(hk 2).2.trans f2,hp,hl⟩,hd⟩
structure Kept (w:World) (R X:Nat) (W:World):Prop where
 os:W.os=w.os
 tape:W.tape=w.tape
 output:W.output=w.output
 size:w.heap.size≤W.heap.size
 block:∀k,k<w.heap.size→k≠R→k≠X→W.heap[k]? =w.heap[k]?
theorem Kept.refl (w:World) (R X:Nat):Kept w R X w:=⟨rfl,rfl,rfl,Nat.le_refl _,fun _ _ _ _=>rfl⟩
theorem Kept.gb {w W W':World} {R X g:Nat} (h:Kept w R X W) (hg:W.grownBy W' (some g)) (hr:g=R∨g=X∨w.heap.size≤g):Kept w R X W':=
 ⟨hg.os.trans h.os,hg.tape.trans h.tape,hg.output.trans h.output,Nat.le_trans h.size hg.size,fun k hk k1 k2=>(hg.block k (Nat.lt_of_lt_of_le hk h.size) (by intro q;injection q with q;omega)).trans (h.block k hk k1 k2)⟩
theorem Kept.below {w W W':World} {R X:Nat} (h:Kept w R X W) (hb:Below W.heap.size W W'):Kept w R X W':=
 ⟨hb.os.trans h.os,hb.tape.trans h.tape,hb.output.trans h.output,Nat.le_trans h.size hb.size,fun k hk k1 k2=>(hb.block k (Nat.lt_of_lt_of_le hk h.size)).trans (h.block k hk k1 k2)⟩
theorem Kept.to {w0 w W:World} {R X:Nat} (h:Kept w R X W) (hb:Below w0.heap.size w0 w) (hR:w0.heap.size≤R) (hX:w0.heap.size≤X):Below w0.heap.size w0 W:=
 ⟨h.os.trans hb.os,h.tape.trans hb.tape,h.output.trans hb.output,Nat.le_trans hb.size h.size,fun k hk=>(h.block k (Nat.lt_of_lt_of_le hk hb.size) (by omega) (by omega)).trans (hb.block k hk)⟩
structure Two (B:Nat) (w:World) (R X:Nat) (W:World) (rest:List Int) (e:Int):Prop where
 own:St W R rest e
 doc:RSt B W X rest e
 kept:Kept w R X W
theorem zfa (zs:List Int) (hz:∀z∈zs,0≤z∧z<256):0≤(numR zs).1:=by
  cases zs with
  |nil=>simp[numR]
  |cons k tl=>
    simp only[numR]
    split
    · simp
    · split
      · simp
      · split
        · have hb:=zaZ (tl.take k.toNat) (fun z hzz=>hz z (List.mem_cons_of_mem _ (List.mem_of_mem_take hzz)))
          simp only[valR]
          split
          · simp
          · exact hb.1
        · simp
theorem St.pos {w:World} {R:Nat} {rest:List Int} {e:Int} (h:St w R rest e):0≤(numS rest e 9223372036854775807).1:=by
 unfold numS
 by_cases he:e=0
 ·rw[if_pos he]
  obtain⟨a,cap,h0,hc,hm,hrow,hlt⟩:=h.2 he
  have:=zfa rest hrow.2.1
  split
  ·split
   ·simp
   ·exact this
  ·simp
 ·rw[if_neg he];simp
set_option linter.unusedVariables false
set_option linter.unusedSimpArgs false
theorem zbw {P:Program} {t:TypeId} {zs:List Value} {pl:Array (Nat ×Nat)} {w:World} (hz:(zeroValue t).run P w=.ok (.agg zs.toArray) w) (hu:P.underlying t=some (.struct (P.fieldsOf t)))
  (hp:(((P.fieldsOf t).mapM fun f=>do pure (f.offset,←sizeOf f.type):Sem (Array (Nat ×Nat)))).run P w=.ok pl w) (parts:Array (Nat ×Value)) (cs:List Value) (h:Instr.fill (pl[·]?) zs.toArray parts.toList=some cs.toArray):(Instr.build t parts).run P w=.ok (.agg cs.toArray) w:=by
 unfold Instr.build
 simp only[Sem.run_bind,hz,Result.andThen_ok,run_underlying hu]
 rw[hp]
 simp only[Result.andThen_ok,Value.cells]
 rw[h]
 rfl
theorem zdw {pl:Array (Nat ×Nat)} {n m:Nat} {z1 z2 c1 c2:List Value} {v1 v2:Value} (h0:pl[0]? =some (0,n)) (h1:pl[1]? =some (n,m)) (l1:z1.length=n) (l2:z2.length=m) (k1:c1.length=n) (k2:c2.length=m) (e1:v1.cells=c1.toArray) (e2:v2.cells=c2.toArray):
  Instr.fill (pl[·]?) (z1++z2).toArray [(0,v1),(1,v2)]=some (c1++c2).toArray:=by
 have s1:z1++z2=[]++(z1++z2):=rfl
 rw[s1,zaW (off:=0) (n:=n) (vs:=c1) h0 l1 rfl e1 k1]
 have s2:[]++(c1++z2)=c1++(z2++[]):=by simp
 rw[s2,zaW (off:=n) (n:=m) (vs:=c2) h1 l2 k1 e2 k2]
 simp[Instr.fill]
theorem zeroSgE (w:World):(zeroValue 133).run prog w=.ok (.agg ([Value.int .i64 0]++v8 (List.replicate 16 0)).toArray) w:=by kernel_rfl
theorem zgd (n:Int) (t:List Value) (ht:t.length=16) (w:World):(Instr.build 133 #[(0,.int .i64 n),(1,.agg t.toArray)]).run prog w=.ok (.agg (.int .i64 n::t).toArray) w:=
 zbw (zs:=[Value.int .i64 0]++v8 (List.replicate 16 0)) (pl:=#[(0,1),(1,16)]) (zeroSgE w) (by kernel_rfl) (by kernel_rfl) _ _ (zdw (c1:=[.int .i64 n]) rfl rfl rfl rfl rfl ht rfl rfl)
theorem zR {P:Program} {o:Oper} {a:Act} {w:World} {t:TypeId} {parts:List (Nat ×Operand)} {vs:List (Nat ×Value)} {v:Value} (ho:o.op=.build t parts.toArray) (hv:(parts.map fun(x:Nat ×Operand)=>(x.1,a.eval x.2))=vs)
  (hr:(Instr.build t vs.toArray).run P w=.ok v w):(execOp a.eval o).run P w=.ok (.value v) w:=by
 subst hv
 have e:Array.map (fun(x:Nat ×Operand)=>(x.1,a.eval x.2)) parts.toArray=(parts.map fun(x:Nat ×Operand)=>(x.1,a.eval x.2)).toArray:=by simp
 unfold execOp
 simp only[ho]
 rw[show(Instr.build t (Array.map (fun x=>match x with|(i,x)=>(i,a.eval x)) parts.toArray))=Instr.build t (parts.map fun(x:Nat ×Operand)=>(x.1,a.eval x.2)).toArray from congrArg _ e]
 simp only[Sem.run_bind,hr,Result.andThen_ok,Sem.run_pure]
theorem zeroEvE (w:World):(zeroValue 25).run prog w=.ok (.agg ([Value.int .i64 0]++([Value.string ⟨#[]⟩]++v8 (List.replicate 16 0))).toArray) w:=by kernel_rfl
theorem zdx {pl:Array (Nat ×Nat)} {n m k:Nat} {z1 z2 z3 c1 c2 c3:List Value} {v1 v2 v3:Value} (h0:pl[0]? =some (0,n)) (h1:pl[1]? =some (n,m)) (h2:pl[2]? =some (n+m,k)) (l1:z1.length=n) (l2:z2.length=m) (l3:z3.length=k) (k1:c1.length=n) (k2:c2.length=m) (k3:c3.length=k) (e1:v1.cells=c1.toArray) (e2:v2.cells=c2.toArray) (e3:v3.cells=c3.toArray):
  Instr.fill (pl[·]?) (z1++(z2++z3)).toArray [(0,v1),(1,v2),(2,v3)]=some (c1++(c2++c3)).toArray:=by
 have s1:z1++(z2++z3)=[]++(z1++(z2++z3)):=rfl
 rw[s1,zaW (off:=0) (n:=n) (vs:=c1) h0 l1 rfl e1 k1]
 have s2:[]++(c1++(z2++z3))=c1++(z2++z3):=by simp
 rw[s2,zaW (off:=n) (n:=m) (vs:=c2) h1 l2 k1 e2 k2]
 have s3:c1++(c2++z3)=(c1++c2)++(z3++[]):=by simp
 rw[s3,zaW (off:=n+m) (n:=k) (vs:=c3) h2 l3 (by simp[k1,k2]) e3 k3]
 simp[Instr.fill]
theorem zgf (n:Int) (b:ByteArray) (t:List Value) (ht:t.length=16) (w:World):(Instr.build 25 #[(0,.int .i64 n),(1,.string b),(2,.agg t.toArray)]).run prog w=.ok (.agg (.int .i64 n::.string b::t).toArray) w:=
 zbw (zs:=[Value.int .i64 0]++([Value.string ⟨#[]⟩]++v8 (List.replicate 16 0))) (pl:=#[(0,1),(1,1),(2,16)]) (zeroEvE w) (by kernel_rfl) (by kernel_rfl) _ _ (zdx (c1:=[.int .i64 n]) (c2:=[.string b]) rfl rfl rfl rfl rfl rfl rfl rfl ht rfl rfl rfl)
def sgS (rest:List Int) (e:Int):Sg ×List Int ×Int:=
 let x1:=numS rest e 64
 let x2:=rawS x1.2.1 x1.2.2 16
 (⟨x1.1,padN 16 x2.1⟩,x2.2.1,x2.2.2)
def evS (rest:List Int) (e:Int):Ev ×List Int ×Int:=
 let x1:=numS rest e 64
 let x2:=textS x1.2.1 x1.2.2 4194304
 let x3:=rawS x2.2.1 x2.2.2 16
 (⟨x1.1,strOf x2.1,padN 16 x3.1⟩,x3.2.1,x3.2.2)
theorem zhE (rest:List Int) (e:Int):(sgS rest e).2.1.length≤rest.length:=Nat.le_trans (zcj _ _ _) (zal _ _ _)
theorem zj3 (rest:List Int) (e:Int):(evS rest e).2.1.length≤rest.length:=Nat.le_trans (zcj _ _ _) (Nat.le_trans (zcc _ _ _) (zal _ _ _))
theorem zhR (Q R:Nat) (z:Bool) (rest:List Int) (e:Int) (w:World) (h:St w R rest e) (hq:MrAt w Q R z) (hl:rest.length≤40000):Calls prog 116 #[.pointer (some ⟨Q,0,none⟩)] w fun en w'=>en=.returned (.agg (sgS rest e).1.cells.toArray)∧St w' R (sgS rest e).2.1 (sgS rest e).2.2∧w.grownBy w' (some R):=by
 obtain⟨zc,hzl,hzr⟩:=zeroSg
 have hRw:=h.1.1
 have hQw:=hq.lt
 have l1:=zal rest e 64
 have cn:=fun w0 h0=>zaD R rest e 64 w0 h0
 show Calls prog 116 _ w fun en w'=>en=.returned (.agg (Value.int .i64 (numS rest e 64).1::v8 (padN 16 (rawS (numS rest e 64).2.1 (numS rest e 64).2.2 16).1)).toArray)∧St w' R (rawS (numS rest e 64).2.1 (numS rest e 64).2.2 16).2.1 (rawS (numS rest e 64).2.1 (numS rest e 64).2.2 16).2.2∧w.grownBy w' (some R)
 obtain⟨v1,hv1⟩:∃x,(numS rest e 64).1=x:=⟨_,rfl⟩
 obtain⟨r1,hr1'⟩:∃x,(numS rest e 64).2.1=x:=⟨_,rfl⟩
 obtain⟨e1,he1⟩:∃x,(numS rest e 64).2.2=x:=⟨_,rfl⟩
 simp only[hv1,hr1',he1]at l1 cn ⊢
 clear hv1 hr1' he1
 have ct:=fun w0 h0 hq0=>zeC Q R z r1 e1 w0 h0 hq0 (by omega)
 have htl:(v8 (padN 16 (rawS r1 e1 16).1)).length=16:=by rw[v8_length,zag]
 have hp1:∀v∈(Value.int .i64 v1::v8 (padN 16 (rawS r1 e1 16).1)),v.oneCell'=true:=SgE.one ⟨v1,padN 16 (rawS r1 e1 16).1⟩
 obtain⟨t,htt⟩:∃t,v8 (padN 16 (rawS r1 e1 16).1)=t:=⟨_,rfl⟩
 obtain⟨r2,hr2'⟩:∃x,(rawS r1 e1 16).2.1=x:=⟨_,rfl⟩
 obtain⟨e2,he2⟩:∃x,(rawS r1 e1 16).2.2=x:=⟨_,rfl⟩
 simp only[htt,hr2',he2]at ct htl hp1 ⊢
 clear htt hr2' he2
 have hbs:=fun w0=>zgd v1 t htl w0
 have hip:(prog.info? 133).map (·.size)=some (Value.int .i64 v1::t).length:=by simp only[List.length_cons,htl];exact iszSg
 have hpl:(Value.int .i64 v1::t).length=17:=by simp only[List.length_cons,htl]
 obtain⟨pc,hpc⟩:∃p,Value.int .i64 v1::t=p:=⟨_,rfl⟩
 simp only[hpc]at hbs hip hp1 hpl ⊢
 clear hpc htl
 obtain⟨hB1,hr1,hs1⟩:=zu w zc 133
 have ht1:=zm w zc.toArray 133 (n:=17) (by simp[hzl])
 go_enter func116,ntmps116
 go_upto_region 0 with fail
 try simp only[Act.put]
 refine zb ?_
 refine zj (d:=some 2) (v:=.pointer (some ⟨w.heap.size,0,none⟩)) (w':=w.alloc (.cells zc.toArray 133)) (by rfl) (zr rfl (hzr _)) rfl ?_
 simp only[nz]
 refine za ?_
 obtain⟨W1,hW1⟩:∃W,w.alloc (.cells zc.toArray 133)=W:=⟨_,rfl⟩
 rw[hW1]at hB1 hr1 hs1 ht1 ⊢
 clear hW1 hr1 hzr hzl
 have st1:=h.below hB1
 have hq1:=hq.below hB1
 have g1:w.grownBy W1 (some R):=zW hB1 _
 go_upto_region 1 with fail
 try simp only[Act.put]
 refine zb ?_
 refine pl_t 3 (?_) (by rfl) ?_ rfl ?_
 rotate_left
 ·go_simp
  try with_reducible rfl
 simp only[nz]
 refine pl_t 4 (?_) (by rfl) ?_ rfl ?_
 rotate_left
 ·go_simp
  try with_reducible rfl
 simp only[nz]
 refine pl_t 5 (?_) (by rfl) ?_ rfl ?_
 rotate_left
 ·go_simp
  try with_reducible rfl
 simp only[nz]
 refine pl_t 6 (.pointer (some ⟨R,0,none⟩)) (by rfl) (zg rfl rfl hq1.c0 underlying98 rfl) rfl ?_
 simp only[nz]
 refine ze (d:=some 7) (by rfl) (by go_simp;first|done|exact⟨rfl,rfl⟩|with_reducible rfl) rfl ?_
 refine(cn W1 st1).mono ?_
 rintro _ w2 ⟨rfl,st2,g2⟩
 refine⟨_,rfl,?_⟩
 simp only[nz]
 refine pl_t 8 (?_) (by rfl) ?_ rfl ?_
 rotate_left
 ·go_simp
  try with_reducible rfl
 simp only[nz]
 refine ze (d:=some 9) (by rfl) (by go_simp;first|done|exact⟨rfl,rfl⟩|with_reducible rfl) rfl ?_
 refine(ct w2 st2 (hq1.gb g2)).mono ?_
 rintro _ w3 ⟨rfl,st3,g3⟩
 refine⟨_,rfl,?_⟩
 simp only[nz]
 refine pl_t 10 (.agg pc.toArray) (by rfl) (zR (parts:=[(0,.tmp 7),(1,.tmp 9)]) rfl rfl (hbs _)) rfl ?_
 simp only[nz]
 have g23:=zt g2 g3
 have thA:w3.there w.heap.size 0 17:=zJ ht1 g23 hs1 (by omega)
 have gc:=zt g1 g23
 have sc:=st3
 refine zf (w':=w3.setCells w.heap.size 0 pc) (by rfl) (zn (cs:=pc.toArray) rfl rfl rfl (by simpa [hpl]using thA) (by simpa using hip) (zo hp1)) rfl ?_
 refine za ?_
 have gf:=zw gc (zi (B:=w.heap.size) (b:=w.heap.size) (Nat.le_refl _) pc 0 _ (Below.refl _ w3)) (Nat.le_refl _)
 have sf:St (w3.setCells w.heap.size 0 pc) R _ _:=sc.belowN (n:=w.heap.size) (zi (Nat.le_refl _) pc 0 _ (Below.refl _ w3)) hRw
 have hrs:=run_loadVar_mid (P:=prog) (w3.setCells w.heap.size 0 pc) w.heap.size 0 133 pc _ (World.rangeAt_setCells_same w3 w.heap.size 0 pc (by rw[hpl];exact thA)) underlying133 rfl hip
 clear sc gc
 go_wp2_with fail
 refine bodyPost_ret (v:=.agg pc.toArray) ?_ rfl ?_
 ·simp[results,results116,Act.put,asAddr,hrs]
 ·exact⟨rfl,sf,gf⟩
theorem zh6 (Q R:Nat) (z:Bool) (rest:List Int) (e:Int) (w:World) (h:St w R rest e) (hq:MrAt w Q R z) (hl:rest.length≤40000):Calls prog 112 #[.pointer (some ⟨Q,0,none⟩)] w fun en w'=>en=.returned (.agg (evS rest e).1.cells.toArray)∧St w' R (evS rest e).2.1 (evS rest e).2.2∧w.grownBy w' (some R):=by
 obtain⟨zc,hzl,hzr⟩:=zeroEv
 have hRw:=h.1.1
 have hQw:=hq.lt
 have l1:=zal rest e 64
 have cn:=fun w0 h0=>zaD R rest e 64 w0 h0
 have l2:=zcc (numS rest e 64).2.1 (numS rest e 64).2.2 4194304
 have cx:=fun w0 h0=>zcZ R (numS rest e 64).2.1 (numS rest e 64).2.2 4194304 w0 h0 h0.pos
 show Calls prog 112 _ w fun en w'=>en=.returned (.agg (Value.int .i64 (numS rest e 64).1::.string (strOf (textS (numS rest e 64).2.1 (numS rest e 64).2.2 4194304).1)::v8 (padN 16 (rawS (textS (numS rest e 64).2.1 (numS rest e 64).2.2 4194304).2.1 (textS (numS rest e 64).2.1 (numS rest e 64).2.2 4194304).2.2 16).1)).toArray)∧St w' R (rawS (textS (numS rest e 64).2.1 (numS rest e 64).2.2 4194304).2.1 (textS (numS rest e 64).2.1 (numS rest e 64).2.2 4194304).2.2 16).2.1 (rawS (textS (numS rest e 64).2.1 (numS rest e 64).2.2 4194304).2.1 (textS (numS rest e 64).2.1 (numS rest e 64).2.2 4194304).2.2 16).2.2∧w.grownBy w' (some R)
 obtain⟨v1,hv1⟩:∃x,(numS rest e 64).1=x:=⟨_,rfl⟩
 obtain⟨r1,hr1'⟩:∃x,(numS rest e 64).2.1=x:=⟨_,rfl⟩
 obtain⟨e1,he1⟩:∃x,(numS rest e 64).2.2=x:=⟨_,rfl⟩
 simp only[hv1,hr1',he1]at l1 cn l2 cx ⊢
 clear hv1 hr1' he1
 obtain⟨v2,hv2⟩:∃x,strOf (textS r1 e1 4194304).1=x:=⟨_,rfl⟩
 obtain⟨r2,hr2'⟩:∃x,(textS r1 e1 4194304).2.1=x:=⟨_,rfl⟩
 obtain⟨e2,he2⟩:∃x,(textS r1 e1 4194304).2.2=x:=⟨_,rfl⟩
 simp only[hv2,hr2',he2]at l2 cx ⊢
 clear hv2 hr2' he2
 have ct:=fun w0 h0 hq0=>zeC Q R z r2 e2 w0 h0 hq0 (by omega)
 have htl:(v8 (padN 16 (rawS r2 e2 16).1)).length=16:=by rw[v8_length,zag]
 have hp1:∀v∈(Value.int .i64 v1::.string v2::v8 (padN 16 (rawS r2 e2 16).1)),v.oneCell'=true:=EvE.one ⟨v1,v2,padN 16 (rawS r2 e2 16).1⟩
 obtain⟨t,htt⟩:∃t,v8 (padN 16 (rawS r2 e2 16).1)=t:=⟨_,rfl⟩
 obtain⟨r3,hr3'⟩:∃x,(rawS r2 e2 16).2.1=x:=⟨_,rfl⟩
 obtain⟨e3,he3⟩:∃x,(rawS r2 e2 16).2.2=x:=⟨_,rfl⟩
 simp only[htt,hr3',he3]at ct htl hp1 ⊢
 clear htt hr3' he3
 have hbs:=fun w0=>zgf v1 v2 t htl w0
 have hip:(prog.info? 25).map (·.size)=some (Value.int .i64 v1::.string v2::t).length:=by simp only[List.length_cons,htl];exact iszEv
 have hpl:(Value.int .i64 v1::.string v2::t).length=18:=by simp only[List.length_cons,htl]
 obtain⟨pc,hpc⟩:∃p,Value.int .i64 v1::.string v2::t=p:=⟨_,rfl⟩
 simp only[hpc]at hbs hip hp1 hpl ⊢
 clear hpc htl
 obtain⟨hB1,hr1,hs1⟩:=zu w zc 25
 have ht1:=zm w zc.toArray 25 (n:=18) (by simp[hzl])
 go_enter func112,ntmps112
 go_upto_region 0 with fail
 try simp only[Act.put]
 refine zb ?_
 refine zj (d:=some 2) (v:=.pointer (some ⟨w.heap.size,0,none⟩)) (w':=w.alloc (.cells zc.toArray 25)) (by rfl) (zr rfl (hzr _)) rfl ?_
 simp only[nz]
 refine za ?_
 obtain⟨W1,hW1⟩:∃W,w.alloc (.cells zc.toArray 25)=W:=⟨_,rfl⟩
 rw[hW1]at hB1 hr1 hs1 ht1 ⊢
 clear hW1 hr1 hzr hzl
 go_upto_region 1 with fail
 have hB8:=hB1.drew
 have ht8:W1.drew.there w.heap.size 0 18:=ht1
 have hs8:w.heap.size<W1.drew.heap.size:=hs1
 refine zG (S:=(fun W'=>MrAt W' Q R z)) 14 rfl (by kernel_rfl) ?_
 obtain⟨w8,hw8⟩:∃W,W1.drew=W:=⟨_,rfl⟩
 rw[hw8]at hB8 ht8 hs8 ⊢
 clear hw8
 have st8:=h.below hB8
 have g8:w.grownBy w8 (some R):=zW hB8 _
 have hS:(fun W'=>MrAt W' Q R z) w8:=hq.below hB8
 refine hs_t 0 3 (?_) rfl (by kernel_rfl) (by kernel_rfl) (by kernel_rfl) (by rfl) ?_ hS rfl ?_
 rotate_left
 ·intro w' hw
  go_simp
  try with_reducible rfl
 simp only[nz]
 refine hs_t 1 4 (?_) rfl (by kernel_rfl) (by kernel_rfl) (by kernel_rfl) (by rfl) ?_ hS rfl ?_
 rotate_left
 ·intro w' hw
  go_simp
  try with_reducible rfl
 simp only[nz]
 refine hs_t 2 5 (?_) rfl (by kernel_rfl) (by kernel_rfl) (by kernel_rfl) (by rfl) ?_ hS rfl ?_
 rotate_left
 ·intro w' hw
  go_simp
  try with_reducible rfl
 simp only[nz]
 refine hs_t 3 6 (.pointer (some ⟨R,0,none⟩)) rfl (by kernel_rfl) (by kernel_rfl) (by kernel_rfl) (by rfl) (fun w' hw=>zg rfl rfl hw.c0 underlying98 rfl) hS rfl ?_
 simp only[nz]
 refine hs_t 5 8 (?_) rfl (by kernel_rfl) (by kernel_rfl) (by kernel_rfl) (by rfl) ?_ hS rfl ?_
 rotate_left
 ·intro w' hw
  go_simp
  try with_reducible rfl
 simp only[nz]
 refine hs_t 6 9 (?_) rfl (by kernel_rfl) (by kernel_rfl) (by kernel_rfl) (by rfl) ?_ hS rfl ?_
 rotate_left
 ·intro w' hw
  go_simp
  try with_reducible rfl
 simp only[nz]
 refine hs_t 7 10 (?_) rfl (by kernel_rfl) (by kernel_rfl) (by kernel_rfl) (by rfl) ?_ hS rfl ?_
 rotate_left
 ·intro w' hw
  go_simp
  try with_reducible rfl
 simp only[nz]
 refine hs_t 8 11 (.pointer (some ⟨R,0,none⟩)) rfl (by kernel_rfl) (by kernel_rfl) (by kernel_rfl) (by rfl) (fun w' hw=>zg rfl rfl hw.c0 underlying98 rfl) hS rfl ?_
 simp only[nz]
 refine hs_t 10 13 (?_) rfl (by kernel_rfl) (by kernel_rfl) (by kernel_rfl) (by rfl) ?_ hS rfl ?_
 rotate_left
 ·intro w' hw
  go_simp
  try with_reducible rfl
 simp only[nz]
 refine zx (i:=4) (d:=some 7) rfl (by kernel_rfl) (by rfl) (by go_simp;first|done|exact⟨rfl,rfl⟩|with_reducible rfl) rfl ?_
 refine(cn w8 st8).mono ?_
 rintro _ w2 ⟨rfl,st2,g2⟩
 have hS:(fun W'=>MrAt W' Q R z) w2:=hS.gb g2
 refine⟨_,rfl,hS,?_⟩
 simp only[nz]
 refine zx (i:=9) (d:=some 12) rfl (by kernel_rfl) (by rfl) (by go_simp;first|done|exact⟨rfl,rfl⟩|with_reducible rfl) rfl ?_
 refine(cx w2 st2).mono ?_
 rintro _ w3 ⟨rfl,st3,g3⟩
 have hS:(fun W'=>MrAt W' Q R z) w3:=hS.gb g3
 refine⟨_,rfl,hS,?_⟩
 simp only[nz]
 refine zx (i:=11) (d:=some 14) rfl (by kernel_rfl) (by rfl) (by go_simp;first|done|exact⟨rfl,rfl⟩|with_reducible rfl) rfl ?_
 refine(ct w3 st3 hS).mono ?_
 rintro _ w4 ⟨rfl,st4,g4⟩
 have hS:(fun W'=>MrAt W' Q R z) w4:=hS.gb g4
 refine⟨_,rfl,hS,?_⟩
 simp only[nz]
 refine hs_t 12 15 (.agg pc.toArray) rfl (by kernel_rfl) (by kernel_rfl) (by kernel_rfl) (by rfl) (fun w' hw=>zR (parts:=[(0,.tmp 7),(1,.tmp 12),(2,.tmp 14)]) rfl rfl (hbs _)) hS rfl ?_
 simp only[nz]
 have g24:=zt (zt g2 g3) g4
 have thA:w4.there w.heap.size 0 18:=zJ ht8 g24 hs8 (by omega)
 have gc:=zt g8 g24
 have sc:=st4
 have hSE:(fun W'=>MrAt W' Q R z) (w4.setCells w.heap.size 0 pc):=hS.at (zaS (by omega)) (by rw[zH];exact Nat.le_refl _)
 refine zU (i:=13) (w':=w4.setCells w.heap.size 0 pc) rfl (by kernel_rfl) (by rfl) (zn (cs:=pc.toArray) rfl rfl rfl (by simpa [hpl]using thA) (by simpa using hip) (zo hp1)) rfl hSE ?_
 refine zE (by kernel_rfl) ?_
 have gf:=zw gc (zi (B:=w.heap.size) (b:=w.heap.size) (Nat.le_refl _) pc 0 _ (Below.refl _ w4)) (Nat.le_refl _)
 have sf:St (w4.setCells w.heap.size 0 pc) R _ _:=sc.belowN (n:=w.heap.size) (zi (Nat.le_refl _) pc 0 _ (Below.refl _ w4)) hRw
 have hrs:=run_loadVar_mid (P:=prog) (w4.setCells w.heap.size 0 pc) w.heap.size 0 25 pc _ (World.rangeAt_setCells_same w4 w.heap.size 0 pc (by rw[hpl];exact thA)) underlying25 rfl hip
 clear sc gc
 go_wp2_with fail
 refine bodyPost_ret (v:=.agg pc.toArray) ?_ rfl ?_
 ·simp[results,results112,Act.put,asAddr,hrs]
 ·exact⟨rfl,sf,gf⟩
theorem zaP {w:World} {b n o m:Nat} (h:w.there b 0 n) (hm:o+m≤n):w.there b o m:=fun j hj=>by
 have:=h (o+j) (by omega)
 rwa [Nat.zero_add]at this
theorem zC {P:Program} {o:Oper} {a:Act} {w:World} {ty:TypeId} {x y:Operand} {b off n:Nat} {v:Value} (ho:o.op=.store ty x y) (hx:a.eval x=.pointer (some ⟨b,off,none⟩)) (hy:a.eval y=v) (ht:w.there b 0 n) (hn:off<n) (hi:(P.info? ty).map (·.size)=some 1) (hvc:v.cells=#[v]) (h1:v.oneCell'=true):(execOp a.eval o).run P w=.ok .skip (w.setCells b off [v]):=by
 refine zbg ho hx hy ?_
 have e:storeVar ty ⟨b,off,none⟩ v=storeVar ty ⟨b,off,none⟩ (.agg #[v]):=by unfold storeVar;rw[hvc];rfl
 rw[e,run_storeVar_mid w b off ty #[v] (zaP ht (by simp;omega)) hi (by simpa using h1)]
theorem Kept.of {w W:World} {R Q:Nat} (hg:w.grownBy W (some R)):Kept w R Q W:=(Kept.refl w R Q).gb hg (.inl rfl)
theorem Kept.trans {w W W':World} {R Q:Nat} (h:Kept w R Q W) (k:Kept W R Q W'):Kept w R Q W':=
 ⟨k.os.trans h.os,k.tape.trans h.tape,k.output.trans h.output,Nat.le_trans h.size k.size,fun i hi k1 k2=>(k.block i (Nat.lt_of_lt_of_le hi h.size) k1 k2).trans (h.block i hi k1 k2)⟩
theorem Kept.newSets {w W:World} {R Q b:Nat} (h:Kept w R Q W) (hb:w.heap.size≤b) (o:Nat) (vs:List Value):Kept w R Q (W.setCells b o vs):=
 h.gb (zM W b vs o) (.inr (.inr hb))
theorem MrAt.zero {w:World} {Q R:Nat} {z:Bool} (h:MrAt w Q R z):MrAt (w.setCells Q 1 [.bool true]) Q R true:=by
  have h1:=h.lt
  have hT:w.there Q 1 [Value.bool true].length:=fun j hj=>by
    obtain rfl:j=0:=by simp at hj;omega
    exact⟨by show(w.cell? ⟨Q,1,none⟩).isSome=true;rw[h.c1];rfl,h.f1⟩
  refine⟨by rw[zH];exact h1,h.ne,?_,?_,?_⟩
  · have hr : w.rangeAt Q 0 [.pointer (some ⟨R, 0, none⟩)] := fun j v hv => by
      match j,hv with
      |0,hv=>cases hv;exact h.c0
    exact(World.rangeAt_setCells_apart hr Q 1 [.bool true] (.inr (.inl (by simp)))) 0 _ rfl
  · exact World.rangeAt_setCells_same w Q 1 [.bool true] hT 0 _ rfl
  · exact(World.there_setCells hT Q 1 [.bool true] 0 (by simp)).2
def kdZ (rest:List Int) (e most:Int) (z:Bool):Bool:=if(numS rest e most).1==0 then(if(numS rest e most).2.2==0 then true else z)else z
theorem zeL (Q R:Nat) (z:Bool) (rest:List Int) (e most:Int) (w:World) (h:St w R rest e) (hq:MrAt w Q R z) (thQ0:w.there Q 0 2):Calls prog 107 #[.pointer (some ⟨Q,0,none⟩),.int .i64 most] w fun en w'=>en=.returned (.int .i64 (numS rest e most).1)∧St w' R (numS rest e most).2.1 (numS rest e most).2.2∧MrAt w' Q R (kdZ rest e most z)∧Kept w R Q w'∧w'.there Q 0 2:=by
 have cn:=zaD R rest e most w h
 unfold kdZ
 obtain⟨v1,hv1⟩:∃x,(numS rest e most).1=x:=⟨_,rfl⟩
 obtain⟨r1,hr1⟩:∃x,(numS rest e most).2.1=x:=⟨_,rfl⟩
 obtain⟨e1,he1⟩:∃x,(numS rest e most).2.2=x:=⟨_,rfl⟩
 simp only[hv1,hr1,he1]at cn ⊢
 clear hv1 hr1 he1
 obtain⟨b0,hb0⟩:∃b,Hid ((v1==0)=b):=⟨_,hide rfl⟩
 obtain⟨b1,hb1⟩:∃b,Hid ((e1==0)=b):=⟨_,hide rfl⟩
 rw[hb0.out,hb1.out]
 obtain⟨zz,hzz⟩:∃x:Bool,Hid ((if b0=true then(if b1=true then true else z)else z)=x):=⟨_,hide rfl⟩
 rw[hzz.out]
 have hQl:=hq.lt
 have hne:=hq.ne
 go_enter func107,ntmps107
 go_upto_region 1 with fail
 try simp only[Act.put]
 refine zb ?_
 refine pl_t 6 (?_) (by rfl) ?_ rfl ?_
 rotate_left
 ·go_simp
  try with_reducible rfl
 simp only[nz]
 refine pl_t 7 (?_) (by rfl) ?_ rfl ?_
 rotate_left
 ·go_simp
  try with_reducible rfl
 simp only[nz]
 refine pl_t 8 (?_) (by rfl) ?_ rfl ?_
 rotate_left
 ·go_simp
  try with_reducible rfl
 simp only[nz]
 refine pl_t 9 (.pointer (some ⟨R,0,none⟩)) (by rfl) (zg rfl rfl hq.c0 underlying98 rfl) rfl ?_
 simp only[nz]
 refine pl_t 10 (?_) (by rfl) ?_ rfl ?_
 rotate_left
 ·go_simp
  try with_reducible rfl
 simp only[nz]
 refine ze (d:=some 11) (by rfl) (by go_simp;first|done|exact⟨rfl,rfl⟩|with_reducible rfl) rfl ?_
 refine(cn).mono ?_
 rintro _ w2 ⟨rfl,st2,g2⟩
 refine⟨_,rfl,?_⟩
 simp only[nz]
 refine pl_t 5 (?_) (by rfl) ?_ rfl ?_
 rotate_left
 ·go_simp
  try with_reducible rfl
 simp only[nz]
 refine za ?_
 have hq2:=hq.gb g2
 have thQ:=zJ thQ0 g2 hQl (by omega)
 clear cn
 go_upto_region 2 with fail
 try simp only[Act.put]
 refine zb ?_
 refine pl_t 12 (?_) (by rfl) ?_ rfl ?_
 rotate_left
 ·go_simp
  try with_reducible rfl
 simp only[nz]
 refine pl_t 13 (.bool b0) (by rfl) (by rw[←hb0.out];go_simp) rfl ?_
 simp only[nz]
 cases b0
 ·refine pl_t 14 (?_) (by rfl) ?_ rfl ?_
  rotate_left
  ·go_simp
   try with_reducible rfl
  simp only[nz]
  refine zL (d:=some 15) (by rfl) rfl ?_
  simp only[nz]
  refine zL (d:=some 16) (by rfl) rfl ?_
  simp only[nz]
  refine zL (d:=some 17) (by rfl) rfl ?_
  simp only[nz]
  refine zL (d:=some 18) (by rfl) rfl ?_
  simp only[nz]
  refine zL (d:=some 19) (by rfl) rfl ?_
  simp only[nz]
  refine zL (d:=some 20) (by rfl) rfl ?_
  simp only[nz]
  refine pl_t 21 (?_) (by rfl) ?_ rfl ?_
  rotate_left
  ·go_simp
   try with_reducible rfl
  simp only[nz]
  refine za ?_
  have HF:Hid (St w2 R r1 e1∧MrAt w2 Q R z∧Kept w R Q w2∧w2.there Q 0 2):=hide ⟨st2,hq2,Kept.of g2,thQ⟩
  go_wp2_with fail
  go_ret
  have e:=hzz.out;simp at e;subst e;exact⟨rfl,HF.out⟩
 ·refine pl_t 14 (?_) (by rfl) ?_ rfl ?_
  rotate_left
  ·go_simp
   try with_reducible rfl
  simp only[nz]
  refine pl_t 15 (?_) (by rfl) ?_ rfl ?_
  rotate_left
  ·go_simp
   try with_reducible rfl
  simp only[nz]
  refine pl_t 16 (?_) (by rfl) ?_ rfl ?_
  rotate_left
  ·go_simp
   try with_reducible rfl
  simp only[nz]
  refine pl_t 17 (?_) (by rfl) ?_ rfl ?_
  rotate_left
  ·go_simp
   try with_reducible rfl
  simp only[nz]
  refine pl_t 18 (.pointer (some ⟨R,0,none⟩)) (by rfl) (zg rfl rfl hq2.c0 underlying98 rfl) rfl ?_
  simp only[nz]
  refine ze (d:=some 19) (by rfl) (by go_simp;first|done|exact⟨rfl,rfl⟩|with_reducible rfl) rfl ?_
  refine(zat R e1 w2 st2.1).mono ?_
  rintro _ w3 ⟨rfl,hx⟩
  obtain rfl:=hx.symm
  clear hx
  refine⟨_,rfl,?_⟩
  simp only[nz]
  refine pl_t 20 (.bool b1) (by rfl) (by rw[←hb1.out];go_simp) rfl ?_
  simp only[nz]
  cases b1
  ·refine pl_t 21 (?_) (by rfl) ?_ rfl ?_
   rotate_left
   ·go_simp
    try with_reducible rfl
   simp only[nz]
   refine za ?_
   have HF:Hid (St w2 R r1 e1∧MrAt w2 Q R z∧Kept w R Q w2∧w2.there Q 0 2):=hide ⟨st2,hq2,Kept.of g2,thQ⟩
   go_wp2_with fail
   go_ret
   have e:=hzz.out;simp at e;subst e;exact⟨rfl,HF.out⟩
  ·refine pl_t 21 (?_) (by rfl) ?_ rfl ?_
   rotate_left
   ·go_simp
    try with_reducible rfl
   simp only[nz]
   refine za ?_
   go_upto_region 3 with fail
   try simp only[Act.put]
   refine zb ?_
   refine pl_t 22 (?_) (by rfl) ?_ rfl ?_
   rotate_left
   ·go_simp
    try with_reducible rfl
   simp only[nz]
   refine pl_t 23 (?_) (by rfl) ?_ rfl ?_
   rotate_left
   ·go_simp
    try with_reducible rfl
   simp only[nz]
   refine pl_t 24 (?_) (by rfl) ?_ rfl ?_
   rotate_left
   ·go_simp
    try with_reducible rfl
   simp only[nz]
   refine zf (w':=w2.setCells Q 1 [.bool true]) (by rfl) (zC (n:=2) rfl rfl rfl thQ (by decide) (by kernel_rfl) rfl rfl) rfl ?_
   refine za ?_
   have HF:Hid (St (w2.setCells Q 1 [.bool true]) R r1 e1∧MrAt (w2.setCells Q 1 [.bool true]) Q R true∧Kept w R Q (w2.setCells Q 1 [.bool true])∧(w2.setCells Q 1 [.bool true]).there Q 0 2):=hide ⟨st2.gb (zM w2 Q _ _) hq2.ne,hq2.zero,(Kept.of g2).gb (zM w2 Q _ _) (.inr (.inl rfl)),World.there_setCells thQ _ _ _⟩
   go_wp2_with fail
   go_ret
   have e:=hzz.out;simp at e;subst e;exact⟨rfl,HF.out⟩
theorem Kept.blk {w W:World} {R Q b:Nat} (h:Kept w R Q W) (hb:b<w.heap.size) (h1:b≠R) (h2:b≠Q):W.heap[b]? =w.heap[b]? :=h.block b hb h1 h2
theorem zbP {w w':World} {b o:Nat} {cs:List Value} (h:w.rangeAt b o cs) (hb:w'.heap[b]? =w.heap[b]?):w'.rangeAt b o cs:=fun j v hv=>by
 rw[(@zO w w' b (o+j) hb).1]
 exact h j v hv
structure VS (w:World) (Q R A B n:Nat) (q:List Value) (z:Bool) (W:World):Prop where
 row:W.rangeAt B 0 q
 box:W.there B 0 n
 ans:W.there A 0 n
 kept:Kept w R Q W
 mr:MrAt W Q R z
 qt:W.there Q 0 2
 la:A<W.heap.size
 lb:B<W.heap.size
 na:w.heap.size≤A
 nb:w.heap.size≤B
 ne:A≠B
 rq:R<w.heap.size∧Q<w.heap.size
theorem VS.on {w W W':World} {Q R A B n:Nat} {q:List Value} {z z':Bool} (h:VS w Q R A B n q z W) (k:Kept W R Q W') (m:MrAt W' Q R z') (t:W'.there Q 0 2):VS w Q R A B n q z' W':=by
 have h1:=h.na
 have h2:=h.nb
 have h3:=h.rq
 exact⟨zbP h.row (k.blk h.lb (by omega) (by omega)),zY h.box (k.blk h.lb (by omega) (by omega)),zY h.ans (k.blk h.la (by omega) (by omega)),h.kept.trans k,m,t,Nat.lt_of_lt_of_le h.la k.size,Nat.lt_of_lt_of_le h.lb k.size,h1,h2,h.ne,h3⟩
theorem VS.gb {w W W':World} {Q R A B n:Nat} {q:List Value} {z:Bool} (h:VS w Q R A B n q z W) (g:W.grownBy W' (some R)):VS w Q R A B n q z W':=
 h.on (Kept.of g) (h.mr.gb g) (zJ h.qt g h.mr.lt (by have:=h.mr.ne;omega))
theorem VS.set {w W:World} {Q R A B n:Nat} {q q':List Value} {z:Bool} (h:VS w Q R A B n q z W) (o:Nat) (vs:List Value) (hq:(W.setCells B o vs).rangeAt B 0 q'):VS w Q R A B n q' z (W.setCells B o vs):=by
 have h1:=h.na
 have h2:=h.nb
 have h3:=h.rq
 exact⟨hq,World.there_setCells h.box _ _ _,World.there_setCells h.ans _ _ _,h.kept.newSets h2 _ _,h.mr.at (zaS (by omega)) (by rw[zH];exact Nat.le_refl _),World.there_setCells h.qt _ _ _,by rw[zH];exact h.la,by rw[zH];exact h.lb,h1,h2,h.ne,h3⟩
theorem VS.drew {w W:World} {Q R A B n:Nat} {q:List Value} {z:Bool} (h:VS w Q R A B n q z W):VS w Q R A B n q z W.drew:=
 ⟨(World.rangeAt_drew _ _ _ _).2 h.row,h.box,h.ans,h.kept.below ((Below.refl _ _).drew),h.mr.below ((Below.refl _ _).drew),h.qt,h.la,h.lb,h.na,h.nb,h.ne,h.rq⟩
theorem VS.st {w W:World} {Q R A B n o:Nat} {q vs rest:List Value} {z:Bool} {zs:List Int} {e:Int} (h:VS w Q R A B n q z W) (hs:St W R zs e):St (W.setCells B o vs) R zs e:=
 hs.gb (zM W B vs o) (by have:=h.nb;have:=h.rq;omega)
def vtS (rest:List Int) (e:Int):Vt ×List Int ×Int:=
 let x0:=numS rest e 2
 let x1:=numS x0.2.1 x0.2.2 1048576
 let x2:=numS x1.2.1 x1.2.2 1099511627776
 let x3:=numS x2.2.1 x2.2.2 1099511627776
 let x4:=rawS x3.2.1 x3.2.2 32
 (⟨x0.1,x1.1,x2.1,x3.1,padN 32 x4.1⟩,x4.2.1,x4.2.2)
theorem zg1 (rest:List Int) (e:Int):(vtS rest e).2.1.length≤rest.length:=Nat.le_trans (zcj _ _ _) (Nat.le_trans (zal _ _ _) (Nat.le_trans (zal _ _ _) (Nat.le_trans (zal _ _ _) (zal _ _ _))))
theorem zax {W:World} {B:Nat} {a b c d:Value} {t:List Value} (h:W.rangeAt B 0 (a::b::c::d::t)) (x:Value):
  (W.setCells B 0 [x]).rangeAt B 0 (x::b::c::d::t)∧(W.setCells B 1 [x]).rangeAt B 0 (a::x::c::d::t)∧(W.setCells B 2 [x]).rangeAt B 0 (a::b::x::d::t)∧(W.setCells B 3 [x]).rangeAt B 0 (a::b::c::x::t):=by
 have k0:=zap h 0 x
 have k1:=zap h 1 x
 have k2:=zap h 2 x
 have k3:=zap h 3 x
 exact⟨k0,k1,k2,k3⟩
theorem zeroVt:∃z:List Value,(∀w:World,(zeroValue 43).run prog w=.ok (.agg z.toArray) w)∧z.length=36∧∃t,t.length=32∧z=.int .i64 0::.int .i64 0::.int .i64 0::.int .i64 0::t:=⟨Vt.zero.cells,fun w=>by kernel_rfl,by decide,_,by decide,rfl⟩
theorem zcm {W:World} {B:Nat} {a b c d:Value} {t dv:List Value} (h:W.rangeAt B 0 (a::b::c::d::t)) (hT:W.there B 4 dv.length):(W.setCells B 4 dv).rangeAt B 0 (a::b::c::d::dv):=by
 have h1:W.rangeAt B 0 ([a,b,c,d]++t):=h
 have k1:=World.rangeAt_setCells_apart (zP h1) B 4 dv (.inr (.inl (by simp)))
 have k2:=World.rangeAt_setCells_same W B 4 dv hT
 exact zaU (cs:=[a,b,c,d]) k1 k2
theorem zhL (Q R:Nat) (z:Bool) (rest:List Int) (e:Int) (w:World) (h:St w R rest e) (hq:MrAt w Q R z) (thQ:w.there Q 0 2) (hl:rest.length≤40000):Calls prog 109 #[.pointer (some ⟨Q,0,none⟩)] w fun en w'=>en=.returned (.agg (vtS rest e).1.cells.toArray)∧St w' R (vtS rest e).2.1 (vtS rest e).2.2∧MrAt w' Q R (kdZ rest e 2 z)∧Kept w R Q w'∧w'.there Q 0 2:=by
 obtain⟨zc,hzr,hzl,tz,htl,hzc⟩:=zeroVt
 have hRw:=h.1.1
 have hQw:=hq.lt
 obtain⟨z1,hz1⟩:∃x,kdZ rest e 2 z=x:=⟨_,rfl⟩
 have ck:=fun w0 h0 m0 t0=>zeL Q R z rest e 2 w0 h0 m0 t0
 have l0:=zal rest e 2
 simp only[hz1]at ck ⊢
 clear hz1
 show Calls prog 109 _ w fun en w'=>en=.returned (.agg (Vt.cells ⟨(numS rest e 2).1,(numS (numS rest e 2).2.1 (numS rest e 2).2.2 1048576).1,(numS (numS (numS rest e 2).2.1 (numS rest e 2).2.2 1048576).2.1 (numS (numS rest e 2).2.1 (numS rest e 2).2.2 1048576).2.2 1099511627776).1,(numS (numS (numS (numS rest e 2).2.1 (numS rest e 2).2.2 1048576).2.1 (numS (numS rest e 2).2.1 (numS rest e 2).2.2 1048576).2.2 1099511627776).2.1 (numS (numS (numS rest e 2).2.1 (numS rest e 2).2.2 1048576).2.1 (numS (numS rest e 2).2.1 (numS rest e 2).2.2 1048576).2.2 1099511627776).2.2 1099511627776).1,padN 32 (rawS (numS (numS (numS (numS rest e 2).2.1 (numS rest e 2).2.2 1048576).2.1 (numS (numS rest e 2).2.1 (numS rest e 2).2.2 1048576).2.2 1099511627776).2.1 (numS (numS (numS rest e 2).2.1 (numS rest e 2).2.2 1048576).2.1 (numS (numS rest e 2).2.1 (numS rest e 2).2.2 1048576).2.2 1099511627776).2.2 1099511627776).2.1 (numS (numS (numS (numS rest e 2).2.1 (numS rest e 2).2.2 1048576).2.1 (numS (numS rest e 2).2.1 (numS rest e 2).2.2 1048576).2.2 1099511627776).2.1 (numS (numS (numS rest e 2).2.1 (numS rest e 2).2.2 1048576).2.1 (numS (numS rest e 2).2.1 (numS rest e 2).2.2 1048576).2.2 1099511627776).2.2 1099511627776).2.2 32).1⟩).toArray)∧St w' R (rawS (numS (numS (numS (numS rest e 2).2.1 (numS rest e 2).2.2 1048576).2.1 (numS (numS rest e 2).2.1 (numS rest e 2).2.2 1048576).2.2 1099511627776).2.1 (numS (numS (numS rest e 2).2.1 (numS rest e 2).2.2 1048576).2.1 (numS (numS rest e 2).2.1 (numS rest e 2).2.2 1048576).2.2 1099511627776).2.2 1099511627776).2.1 (numS (numS (numS (numS rest e 2).2.1 (numS rest e 2).2.2 1048576).2.1 (numS (numS rest e 2).2.1 (numS rest e 2).2.2 1048576).2.2 1099511627776).2.1 (numS (numS (numS rest e 2).2.1 (numS rest e 2).2.2 1048576).2.1 (numS (numS rest e 2).2.1 (numS rest e 2).2.2 1048576).2.2 1099511627776).2.2 1099511627776).2.2 32).2.1 (rawS (numS (numS (numS (numS rest e 2).2.1 (numS rest e 2).2.2 1048576).2.1 (numS (numS rest e 2).2.1 (numS rest e 2).2.2 1048576).2.2 1099511627776).2.1 (numS (numS (numS rest e 2).2.1 (numS rest e 2).2.2 1048576).2.1 (numS (numS rest e 2).2.1 (numS rest e 2).2.2 1048576).2.2 1099511627776).2.2 1099511627776).2.1 (numS (numS (numS (numS rest e 2).2.1 (numS rest e 2).2.2 1048576).2.1 (numS (numS rest e 2).2.1 (numS rest e 2).2.2 1048576).2.2 1099511627776).2.1 (numS (numS (numS rest e 2).2.1 (numS rest e 2).2.2 1048576).2.1 (numS (numS rest e 2).2.1 (numS rest e 2).2.2 1048576).2.2 1099511627776).2.2 1099511627776).2.2 32).2.2∧MrAt w' Q R z1∧Kept w R Q w'∧w'.there Q 0 2
 obtain⟨v0,hv0⟩:∃x,(numS rest e 2).1=x:=⟨_,rfl⟩
 obtain⟨r0,hr0⟩:∃x,(numS rest e 2).2.1=x:=⟨_,rfl⟩
 obtain⟨e0,he0⟩:∃x,(numS rest e 2).2.2=x:=⟨_,rfl⟩
 simp only[hv0,hr0,he0]at ck l0 ⊢
 clear hv0 hr0 he0
 have l1:=zal r0 e0 1048576
 have c1:=fun w0 h0=>zaD R r0 e0 1048576 w0 h0
 obtain⟨v1,hv1⟩:∃x,(numS r0 e0 1048576).1=x:=⟨_,rfl⟩
 obtain⟨r1,hr1⟩:∃x,(numS r0 e0 1048576).2.1=x:=⟨_,rfl⟩
 obtain⟨e1,he1⟩:∃x,(numS r0 e0 1048576).2.2=x:=⟨_,rfl⟩
 simp only[hv1,hr1,he1]at c1 l1 ⊢
 clear hv1 hr1 he1
 have l2:=zal r1 e1 1099511627776
 have c2:=fun w0 h0=>zaD R r1 e1 1099511627776 w0 h0
 obtain⟨v2,hv2⟩:∃x,(numS r1 e1 1099511627776).1=x:=⟨_,rfl⟩
 obtain⟨r2,hr2⟩:∃x,(numS r1 e1 1099511627776).2.1=x:=⟨_,rfl⟩
 obtain⟨e2,he2⟩:∃x,(numS r1 e1 1099511627776).2.2=x:=⟨_,rfl⟩
 simp only[hv2,hr2,he2]at c2 l2 ⊢
 clear hv2 hr2 he2
 have l3:=zal r2 e2 1099511627776
 have c3:=fun w0 h0=>zaD R r2 e2 1099511627776 w0 h0
 obtain⟨v3,hv3⟩:∃x,(numS r2 e2 1099511627776).1=x:=⟨_,rfl⟩
 obtain⟨r3,hr3⟩:∃x,(numS r2 e2 1099511627776).2.1=x:=⟨_,rfl⟩
 obtain⟨e3,he3⟩:∃x,(numS r2 e2 1099511627776).2.2=x:=⟨_,rfl⟩
 simp only[hv3,hr3,he3]at c3 l3 ⊢
 clear hv3 hr3 he3
 have c4:=fun w0 h0 m0=>zeN Q R z1 r3 e3 w0 h0 m0 (by omega)
 have hdl:(v8 (padN 32 (rawS r3 e3 32).1)).length=32:=by rw[v8_length,zag]
 have hd1:=zI (padN 32 (rawS r3 e3 32).1)
 show Calls prog 109 _ w fun en w'=>en=.returned (.agg (Value.int .i64 v0::.int .i64 v1::.int .i64 v2::.int .i64 v3::v8 (padN 32 (rawS r3 e3 32).1)).toArray)∧_
 obtain⟨dv,hdv⟩:∃t,v8 (padN 32 (rawS r3 e3 32).1)=t:=⟨_,rfl⟩
 obtain⟨r4,hr4⟩:∃x,(rawS r3 e3 32).2.1=x:=⟨_,rfl⟩
 obtain⟨e4,he4⟩:∃x,(rawS r3 e3 32).2.2=x:=⟨_,rfl⟩
 simp only[hdv,hr4,he4]at c4 hdl hd1 ⊢
 clear hdv hr4 he4
 have hpl:(Value.int .i64 v0::.int .i64 v1::.int .i64 v2::.int .i64 v3::dv).length=36:=by simp only[List.length_cons,hdl]
 have hip:(prog.info? 43).map (·.size)=some (Value.int .i64 v0::.int .i64 v1::.int .i64 v2::.int .i64 v3::dv).length:=by rw[hpl];exact iszVo
 have hp1:∀v∈(Value.int .i64 v0::.int .i64 v1::.int .i64 v2::.int .i64 v3::dv),v.oneCell'=true:=fun v hv=>by
  simp only[List.mem_cons]at hv
  rcases hv with rfl|rfl|rfl|rfl|hv
  ·rfl
  ·rfl
  ·rfl
  ·rfl
  ·exact hd1 v hv
 obtain⟨hB1,hr1,hs1⟩:=zu w zc 43
 have ht1:=zm w zc.toArray 43 (n:=36) (by simp[hzl])
 obtain⟨pc,hpc⟩:∃p,Hid (Value.int .i64 v0::.int .i64 v1::.int .i64 v2::.int .i64 v3::dv=p):=⟨_,hide rfl⟩
 rw[hpc.out]at hpl hip hp1 ⊢
 go_enter func109,ntmps109
 go_upto_region 0 with fail
 try simp only[Act.put]
 refine zb ?_
 refine zj (d:=some 2) (v:=.pointer (some ⟨w.heap.size,0,none⟩)) (w':=w.alloc (.cells zc.toArray 43)) (by rfl) (zr rfl (hzr _)) rfl ?_
 simp only[nz]
 refine za ?_
 obtain⟨W1,hW1⟩:∃W,w.alloc (.cells zc.toArray 43)=W:=⟨_,rfl⟩
 rw[hW1]at hB1 hr1 hs1 ht1 ⊢
 clear hW1 hr1
 obtain⟨hB2,hr2,hs2⟩:=zu W1 zc 43
 have ht2:=zm W1 zc.toArray 43 (n:=36) (by simp[hzl])
 go_upto_region 1 with fail
 try simp only[Act.put]
 refine zb ?_
 refine zj (d:=some 3) (v:=.pointer (some ⟨W1.heap.size,0,none⟩)) (w':=W1.alloc (.cells zc.toArray 43)) (by rfl) (zr rfl (hzr _)) rfl ?_
 simp only[nz]
 refine za ?_
 obtain⟨W2,hW2⟩:∃W,W1.alloc (.cells zc.toArray 43)=W:=⟨_,rfl⟩
 rw[hW2]at hB2 hr2 hs2 ht2 ⊢
 clear hW2
 rw[hzc]at hr2
 have hBW:=hB1.trans (hB2.mono hB1.size)
 have V0:VS w Q R w.heap.size W1.heap.size 36 _ z W2:=⟨hr2,ht2,zao ht1 hB2 hs1,(Kept.refl w R Q).below hBW,hq.below hBW,zao thQ hBW hQw,Nat.lt_of_lt_of_le hs1 hB2.size,hs2,Nat.le_refl _,hB1.size,by omega,hRw,hQw⟩
 have st2:=h.below hBW
 clear hr2 ht2 ht1 hzr hzc hzl hB1 hB2 hBW hs2 h hq thQ
 go_upto_region 2 with fail
 try simp only[Act.put]
 refine zb ?_
 refine pl_t 4 (?_) (by rfl) ?_ rfl ?_
 rotate_left
 ·go_simp
  try with_reducible rfl
 simp only[nz]
 refine ze (d:=some 5) (by rfl) (by go_simp;first|done|exact⟨rfl,rfl⟩|with_reducible rfl) rfl ?_
 refine(ck W2 st2 V0.mr V0.qt).mono ?_
 rintro _ w3 ⟨rfl,st3,m3,k3,t3⟩
 refine⟨_,rfl,?_⟩
 simp only[nz]
 refine pl_t 6 (?_) (by rfl) ?_ rfl ?_
 rotate_left
 ·go_simp
  try with_reducible rfl
 simp only[nz]
 have V3:=V0.on k3 m3 t3
 have V4:=V3.set 0 [.int .i64 v0] (zax V3.row _).1
 have st4:=V3.st (o:=0) (vs:=[.int .i64 v0]) (rest:=[]) st3
 refine zf (w':=w3.setCells W1.heap.size 0 [.int .i64 v0]) (by rfl) (zC (n:=36) rfl rfl rfl V3.box (by decide) iszI rfl rfl) rfl ?_
 refine za ?_
 obtain⟨w4,hw4⟩:∃W,w3.setCells W1.heap.size 0 [.int .i64 v0]=W:=⟨_,rfl⟩
 rw[hw4]at V4 st4 ⊢
 clear hw4 V3 st3 m3 k3 t3 V0 st2 ck
 go_upto_region 3 with fail
 have V8:=V4.drew
 have st8:=st4.below (Below.refl _ _).drew
 refine zG (S:=(fun W'=>MrAt W' Q R z1)) 21 rfl (by kernel_rfl) ?_
 obtain⟨w8,hw8⟩:∃W,w4.drew=W:=⟨_,rfl⟩
 rw[hw8]at V8 st8 ⊢
 clear hw8 V4 st4
 have hS:(fun W'=>MrAt W' Q R z1) w8:=V8.mr
 refine hs_t 0 7 (?_) rfl (by kernel_rfl) (by kernel_rfl) (by kernel_rfl) (by rfl) ?_ hS rfl ?_
 rotate_left
 ·intro w' hw
  go_simp
  try with_reducible rfl
 simp only[nz]
 refine hs_t 1 8 (?_) rfl (by kernel_rfl) (by kernel_rfl) (by kernel_rfl) (by rfl) ?_ hS rfl ?_
 rotate_left
 ·intro w' hw
  go_simp
  try with_reducible rfl
 simp only[nz]
 refine hs_t 2 9 (?_) rfl (by kernel_rfl) (by kernel_rfl) (by kernel_rfl) (by rfl) ?_ hS rfl ?_
 rotate_left
 ·intro w' hw
  go_simp
  try with_reducible rfl
 simp only[nz]
 refine hs_t 3 10 (.pointer (some ⟨R,0,none⟩)) rfl (by kernel_rfl) (by kernel_rfl) (by kernel_rfl) (by rfl) (fun w' hw=>zg rfl rfl hw.c0 underlying98 rfl) hS rfl ?_
 simp only[nz]
 refine hs_t 5 12 (?_) rfl (by kernel_rfl) (by kernel_rfl) (by kernel_rfl) (by rfl) ?_ hS rfl ?_
 rotate_left
 ·intro w' hw
  go_simp
  try with_reducible rfl
 simp only[nz]
 refine hs_t 6 13 (?_) rfl (by kernel_rfl) (by kernel_rfl) (by kernel_rfl) (by rfl) ?_ hS rfl ?_
 rotate_left
 ·intro w' hw
  go_simp
  try with_reducible rfl
 simp only[nz]
 refine hs_t 7 14 (?_) rfl (by kernel_rfl) (by kernel_rfl) (by kernel_rfl) (by rfl) ?_ hS rfl ?_
 rotate_left
 ·intro w' hw
  go_simp
  try with_reducible rfl
 simp only[nz]
 refine hs_t 8 15 (.pointer (some ⟨R,0,none⟩)) rfl (by kernel_rfl) (by kernel_rfl) (by kernel_rfl) (by rfl) (fun w' hw=>zg rfl rfl hw.c0 underlying98 rfl) hS rfl ?_
 simp only[nz]
 refine hs_t 10 17 (?_) rfl (by kernel_rfl) (by kernel_rfl) (by kernel_rfl) (by rfl) ?_ hS rfl ?_
 rotate_left
 ·intro w' hw
  go_simp
  try with_reducible rfl
 simp only[nz]
 refine hs_t 11 18 (?_) rfl (by kernel_rfl) (by kernel_rfl) (by kernel_rfl) (by rfl) ?_ hS rfl ?_
 rotate_left
 ·intro w' hw
  go_simp
  try with_reducible rfl
 simp only[nz]
 refine hs_t 12 19 (?_) rfl (by kernel_rfl) (by kernel_rfl) (by kernel_rfl) (by rfl) ?_ hS rfl ?_
 rotate_left
 ·intro w' hw
  go_simp
  try with_reducible rfl
 simp only[nz]
 refine hs_t 13 20 (.pointer (some ⟨R,0,none⟩)) rfl (by kernel_rfl) (by kernel_rfl) (by kernel_rfl) (by rfl) (fun w' hw=>zg rfl rfl hw.c0 underlying98 rfl) hS rfl ?_
 simp only[nz]
 refine zx (i:=4) (d:=some 11) rfl (by kernel_rfl) (by rfl) (by go_simp;first|done|exact⟨rfl,rfl⟩|with_reducible rfl) rfl ?_
 refine(c1 w8 st8).mono ?_
 rintro _ w5 ⟨rfl,st5,g5⟩
 have hS:(fun W'=>MrAt W' Q R z1) w5:=hS.gb g5
 refine⟨_,rfl,hS,?_⟩
 simp only[nz]
 refine hs_t 15 22 (?_) rfl (by kernel_rfl) (by kernel_rfl) (by kernel_rfl) (by rfl) ?_ hS rfl ?_
 rotate_left
 ·intro w' hw
  go_simp
  try with_reducible rfl
 simp only[nz]
 refine zx (i:=9) (d:=some 16) rfl (by kernel_rfl) (by rfl) (by go_simp;first|done|exact⟨rfl,rfl⟩|with_reducible rfl) rfl ?_
 refine(c2 w5 st5).mono ?_
 rintro _ w6 ⟨rfl,st6,g6⟩
 have hS:(fun W'=>MrAt W' Q R z1) w6:=hS.gb g6
 refine⟨_,rfl,hS,?_⟩
 simp only[nz]
 refine zx (i:=14) (d:=some 21) rfl (by kernel_rfl) (by rfl) (by go_simp;first|done|exact⟨rfl,rfl⟩|with_reducible rfl) rfl ?_
 refine(c3 w6 st6).mono ?_
 rintro _ w7 ⟨rfl,st7,g7⟩
 have hS:(fun W'=>MrAt W' Q R z1) w7:=hS.gb g7
 refine⟨_,rfl,hS,?_⟩
 simp only[nz]
 have V7:=((V8.gb g5).gb g6).gb g7
 have Va:=V7.set 1 [.int .i64 v1] (zax V7.row _).2.1
 have sta:=V7.st (o:=1) (vs:=[.int .i64 v1]) (rest:=[]) st7
 refine zU (i:=16) (w':=w7.setCells W1.heap.size 1 [.int .i64 v1]) rfl (by kernel_rfl) (by rfl) (zC (n:=36) rfl rfl rfl V7.box (by decide) iszI rfl rfl) rfl Va.mr ?_
 obtain⟨w_16,hw_16⟩:∃W,w7.setCells W1.heap.size 1 [.int .i64 v1]=W:=⟨_,rfl⟩
 rw[hw_16]at Va sta ⊢
 clear hw_16
 have hS:(fun W'=>MrAt W' Q R z1) w_16:=Va.mr
 refine hs_t 17 23 (?_) rfl (by kernel_rfl) (by kernel_rfl) (by kernel_rfl) (by rfl) ?_ hS rfl ?_
 rotate_left
 ·intro w' hw
  go_simp
  try with_reducible rfl
 simp only[nz]
 have Vb:=Va.set 2 [.int .i64 v2] (zax Va.row _).2.2.1
 have stb:=Va.st (o:=2) (vs:=[.int .i64 v2]) (rest:=[]) sta
 refine zU (i:=18) (w':=w_16.setCells W1.heap.size 2 [.int .i64 v2]) rfl (by kernel_rfl) (by rfl) (zC (n:=36) rfl rfl rfl Va.box (by decide) iszI rfl rfl) rfl Vb.mr ?_
 obtain⟨w_18,hw_18⟩:∃W,w_16.setCells W1.heap.size 2 [.int .i64 v2]=W:=⟨_,rfl⟩
 rw[hw_18]at Vb stb ⊢
 clear hw_18
 have hS:(fun W'=>MrAt W' Q R z1) w_18:=Vb.mr
 refine hs_t 19 24 (?_) rfl (by kernel_rfl) (by kernel_rfl) (by kernel_rfl) (by rfl) ?_ hS rfl ?_
 rotate_left
 ·intro w' hw
  go_simp
  try with_reducible rfl
 simp only[nz]
 have Vc:=Vb.set 3 [.int .i64 v3] (zax Vb.row _).2.2.2
 have stc:=Vb.st (o:=3) (vs:=[.int .i64 v3]) (rest:=[]) stb
 refine zU (i:=20) (w':=w_18.setCells W1.heap.size 3 [.int .i64 v3]) rfl (by kernel_rfl) (by rfl) (zC (n:=36) rfl rfl rfl Vb.box (by decide) iszI rfl rfl) rfl Vc.mr ?_
 obtain⟨w_20,hw_20⟩:∃W,w_18.setCells W1.heap.size 3 [.int .i64 v3]=W:=⟨_,rfl⟩
 rw[hw_20]at Vc stc ⊢
 clear hw_20
 have hS:(fun W'=>MrAt W' Q R z1) w_20:=Vc.mr
 refine zE (by kernel_rfl) ?_
 clear V7 Va Vb sta stb st5 st6 st7 g5 g6 g7 V8 st8 hS c1 c2 c3
 go_upto_region 4 with fail
 try simp only[Act.put]
 refine zb ?_
 refine pl_t 25 (?_) (by rfl) ?_ rfl ?_
 rotate_left
 ·go_simp
  try with_reducible rfl
 simp only[nz]
 refine ze (d:=some 26) (by rfl) (by go_simp;first|done|exact⟨rfl,rfl⟩|with_reducible rfl) rfl ?_
 refine(c4 w_20 stc Vc.mr).mono ?_
 rintro _ wd ⟨rfl,std,gd⟩
 refine⟨_,rfl,?_⟩
 simp only[nz]
 refine pl_t 27 (?_) (by rfl) ?_ rfl ?_
 rotate_left
 ·go_simp
  try with_reducible rfl
 simp only[nz]
 have Vd:=Vc.gb gd
 have Ve:=Vd.set 4 dv (zcm Vd.row (by rw[hdl];exact zaP Vd.box (by decide)))
 have ste:=Vd.st (o:=4) (vs:=dv) (rest:=[]) std
 refine zf (w':=wd.setCells W1.heap.size 4 dv) (by rfl) (zn (cs:=dv.toArray) rfl rfl rfl (by simpa [hdl]using zaP Vd.box (o:=4) (m:=32) (by decide)) (by simpa [hdl]using iszD) (zo hd1)) rfl ?_
 refine za ?_
 obtain⟨we,hwe⟩:∃W,wd.setCells W1.heap.size 4 dv=W:=⟨_,rfl⟩
 rw[hwe]at Ve ste ⊢
 clear hwe Vd std gd Vc stc c4
 have rpc:=Ve.row
 rw[hpc.out]at rpc
 have hlow:Below w.heap.size we (we.setCells w.heap.size 0 pc):=zi (Nat.le_refl _) pc 0 _ (Below.refl _ we)
 go_upto_region 5 with fail
 try simp only[Act.put]
 refine zb ?_
 refine pl_t 28 (.agg pc.toArray) (by rfl) (zp rfl rfl rpc underlying43 rfl hip) rfl ?_
 simp only[nz]
 refine zf (w':=we.setCells w.heap.size 0 pc) (by rfl) (zn (cs:=pc.toArray) rfl rfl rfl (by simpa [hpl]using Ve.ans) (by simpa using hip) (zo hp1)) rfl ?_
 refine za ?_
 have hrs:=run_loadVar_mid (P:=prog) (we.setCells w.heap.size 0 pc) w.heap.size 0 43 pc _ (World.rangeAt_setCells_same we w.heap.size 0 pc (by rw[hpl];exact Ve.ans)) underlying43 rfl hip
 have HF:Hid (St (we.setCells w.heap.size 0 pc) R r4 e4∧MrAt (we.setCells w.heap.size 0 pc) Q R z1∧Kept w R Q (we.setCells w.heap.size 0 pc)∧(we.setCells w.heap.size 0 pc).there Q 0 2):=hide ⟨ste.belowN hlow hRw,Ve.mr.at (zaS (by omega)) (by rw[zH];exact Nat.le_refl _),Ve.kept.newSets (Nat.le_refl _) _ _,World.there_setCells Ve.qt _ _ _⟩
 clear Ve ste hlow rpc
 go_wp2_with fail
 refine bodyPost_ret (v:=.agg pc.toArray) ?_ rfl ?_
 ·simp[results,results109,Act.put,asAddr,hrs]
 ·exact⟨rfl,HF.out⟩
end Go.Proofs.YtcbpbkefggekmaaGreatDoor
