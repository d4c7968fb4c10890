/- EnvelopeSealed: what was sealed is opened as the message that it was; with another sender, or another body, it is refused, as long as the macs are unlike; witho -/
import Derived.Test.YtcbpbkefggekmaaGreatDoorJS11
import Derived.Deep.Slices
import Derived.Test.YtcbpbkefggekmaaGreatDoorRows
import Derived.ProofKit
import Derived.OpenShut
import Derived.ShutString
import Derived.ChangeOld
import Derived.Below
import Derived.Lib.LaidTab
import Derived.Test.YtcbpbkefggekmaaGreatDoorJS3
import Derived.Test.YtcbpbkefggekmaaGreatDoorCards
import Derived.Test.YtcbpbkefggekmaaGreatDoorTie
import Derived.LaidMore
import Derived.Stop.Joined
import Derived.Test.YtcbpbkefggekmaaGreatDoorJS18
set_option maxRecDepth 100000
open Go.Proofs.Tryz
namespace Go.Proofs.YtcbpbkefggekmaaGreatDoor
open Go.ChangeShapes Go.WideShapes Go.ChangeAt Go.RowKit
open Sha Tal
set_option linter.unusedVariables false
set_option linter.constructorNameAsVariable false
theorem own:ownKnob prog.godebug=none:=by kernel_rfl
theorem laidOut:laidOutB prog=true:=by kernel_rfl
theorem wf64 {z:Int} (h:(Lit.int .i64 z).wf=true):-9223372036854775808≤z∧z≤9223372036854775807:=by
 simp only[Lit.wf,Bool.and_eq_true,decide_eq_true_eq]at h
 exact h
theorem zH {α:Type} {xs:List α} {n i:Nat} (hl:xs.length=n) (hi:i<n):∃y,xs[i]? =some y:=⟨xs[i]'(by omega),List.getElem?_eq_getElem (by omega)⟩
theorem zhl {α:Type} {l:List α} {o:Nat} {v:α} (h:(l.drop o).take 1=[v]):l[o]? =some v:=by
 have:=congrArg (·[0]?) h
 simpa [List.getElem?_take,List.getElem?_drop]using this
section
variable {H : Type} {enc : TypeId × Value → H} {W : World} {b : Nat} {sp : Nat → Bool} {held : Bool} {m : Nat}
theorem zdi {l:List Value} {o:Nat} {y:DataW H ×List MemPlace} (h:DataW.trod enc prog W b sp held m 3 ((l.drop o).take 1)=some y):∃z,l[o]? =some (.int .i64 z)∧ -9223372036854775808≤z∧z≤9223372036854775807:=by
 obtain⟨z,hc,rfl,hw⟩:=DataW.trod_int underlying3 h
 exact⟨z,zhl hc,wf64 hw⟩
theorem zcu {t n:Nat} {l:List Value} {y:DataW H ×List MemPlace} (hu:prog.underlying t=some (.array n 5)) (hct:prog.cellsOf t=n) (h:DataW.trod enc prog W b sp held m t l=some y):∃zs:List Int,l=v8 zs∧zs.length=n∧∀z∈zs,0≤z∧z<256:=by
  have hce:prog.cellsOf 5=1:=by kernel_rfl
  cases m with
  |zero=>simp[DataW.trod]at h
  |succ m=>
    simp only[DataW.trod,hu,hce,hct,Nat.mul_one]at h
    split at h
    · rename_i hsz
      obtain⟨xs,hm,hx⟩:=Option.map_eq_some_iff.1 h
      have key:∀i,i<n→∃z,l[i]? =some (.int .u8 z)∧0≤z∧z<256:=fun i hi=>by
        obtain⟨y,hy,hf⟩:=Lib.mapM_at hm i i (by simp[hi])
        obtain⟨z,hc,rfl,hw⟩:=DataW.trod_int underlying5 hf
        refine⟨z,zhl hc,?_⟩
        simp[Lit.wf,IntKind.min,IntKind.max,IntKind.signed,IntKind.bits]at hw
        omega
      have hln:l.length=n:=by simpa using hsz
      refine⟨l.map (fun v=>match v with|.int _ z=>z|_=>0),?_,by simpa using hln,?_⟩
      · apply List.ext_getElem?
        intro i
        by_cases hi:i<n
        · obtain⟨z,hz,_⟩:=key i hi
          simp only[v8,List.map_map,List.getElem?_map,hz,Option.map_some]
          rfl
        · rw[List.getElem?_eq_none (by omega),List.getElem?_eq_none (by simp[v8];omega)]
      · intro z hz
        obtain⟨u,hu,rfl⟩:=List.mem_map.1 hz
        obtain⟨i,hi,rfl⟩:=List.mem_iff_getElem.1 hu
        obtain⟨z,hz,hb⟩:=key i (by omega)
        rw[List.getElem?_eq_getElem hi]at hz
        rw[Option.some.inj hz]
        exact hb
    · cases h
end
theorem ze8 {H:Type} {enc:TypeId ×Value→H} {W:World} {b:Nat} {sp:Nat→Bool} {held:Bool} {fuel:Nat} {l:List Value} {x:DataW H ×List MemPlace}
  (h:DataW.trod enc prog W b sp held fuel 43 l=some x):∃r:Vt,l=r.cells∧r.ok:=by
 have hct:prog.cellsOf 43=36:=by kernel_rfl
 have hci:prog.cellsOf 3=1:=by kernel_rfl
 have hcg:prog.cellsOf 41=32:=by kernel_rfl
 obtain⟨xs,m,_,rfl,hcl,hl,hf⟩:=DataW.trod_struct underlying43 h
 rw[hct]at hcl
 have hl:xs.length=5:=hl
 have h0:DataW.trod enc prog W b sp held m 3 ((l.drop 0).take (prog.cellsOf 3))=xs[0]? :=hf 0 _ rfl
 have h1:DataW.trod enc prog W b sp held m 3 ((l.drop 1).take (prog.cellsOf 3))=xs[1]? :=hf 1 _ rfl
 have h2:DataW.trod enc prog W b sp held m 3 ((l.drop 2).take (prog.cellsOf 3))=xs[2]? :=hf 2 _ rfl
 have h3:DataW.trod enc prog W b sp held m 3 ((l.drop 3).take (prog.cellsOf 3))=xs[3]? :=hf 3 _ rfl
 have h4:DataW.trod enc prog W b sp held m 41 ((l.drop 4).take (prog.cellsOf 41))=xs[4]? :=hf 4 _ rfl
 rw[hci]at h0 h1 h2 h3
 rw[hcg]at h4
 obtain⟨y0,e0⟩:=zH hl (show 0<5 by omega)
 obtain⟨y1,e1⟩:=zH hl (show 1<5 by omega)
 obtain⟨y2,e2⟩:=zH hl (show 2<5 by omega)
 obtain⟨y3,e3⟩:=zH hl (show 3<5 by omega)
 obtain⟨y4,e4⟩:=zH hl (show 4<5 by omega)
 obtain⟨k,g0,_,b0⟩:=zdi (h0.trans e0)
 obtain⟨ep,g1,_,b1⟩:=zdi (h1.trans e1)
 obtain⟨vi,g2,_,b2⟩:=zdi (h2.trans e2)
 obtain⟨sl,g3,_,b3⟩:=zdi (h3.trans e3)
 obtain⟨d,g4,hd,hb⟩:=zcu underlying41 hcg (h4.trans e4)
 refine⟨⟨k,ep,vi,sl,d⟩,?_,⟨b0,b1,b2,b3,hd,hb⟩⟩
 show l=.int .i64 k::.int .i64 ep::.int .i64 vi::.int .i64 sl::v8 d
 match l,hcl with
 |a0::a1::a2::a3::l,hcl=>
  simp at g0 g1 g2 g3 hcl
  have:List.take 32 l=v8 d:=g4
  rw[List.take_of_length_le (by omega)]at this
  subst g0 g1 g2 g3 this
  rfl
theorem zhx {w:World} {base n:Nat} {x:Addr} {cs:List Value} (h:w.cells? base x n=some cs):cs.length=n∧∀j v,cs[j]? =some v→w.cell? (x.add j)=some v:=by
 unfold World.cells? at h
 split at h
 ·have hl:=Lib.mapM_length h
  refine⟨by simpa using hl,fun j v hv=>?_⟩
  have hj:j<n:=by
   have:=(List.getElem?_eq_some_iff.1 hv).1
   have:cs.length=n:=by simpa using hl
   omega
  obtain⟨y,hy,hf⟩:=Lib.mapM_at h j j (by simp[hj])
  rw[hv]at hy
  exact hf.trans hy.symm
 ·cases h
theorem zlQ {α:Type} {f:α→List Value} {k:Nat} (hk:0<k) (R:Nat→α):∀(n:Nat),(∀i,i<n→(f (R i)).length=k)→∀j,j<n*k→(((List.range n).map R).flatMap f)[j]? =(f (R (j / k)))[j%k]? :=by
  intro n
  induction n with
  |zero=>intro _ j hj;omega
  |succ n ih=>
    intro hR j hj
    have hl:(((List.range n).map R).flatMap f).length=n*k:=by
      have:=zem (f:=f) (k:=k) (ys:=(List.range n).map R) (fun y hy=>by
        obtain⟨i,hi,rfl⟩:=List.mem_map.1 hy
        exact hR i (by have:=List.mem_range.1 hi;omega))
      simpa using this
    rw[List.range_succ,List.map_append,List.flatMap_append]
    by_cases h:j<n*k
    · rw[List.getElem?_append_left (by omega),ih (fun i hi=>hR i (by omega)) j h]
    · rw[List.getElem?_append_right (by omega),hl]
      have e0:j=(j - n*k)+k*n:=by rw[Nat.mul_comm k n];omega
      have hlt:j - n*k<k:=by rw[Nat.add_mul,Nat.one_mul]at hj;omega
      have e1:j / k=n:=by rw[e0,Nat.add_mul_div_left _ _ hk,Nat.div_eq_of_lt hlt];omega
      have e2:j%k=j - n*k:=by
        have:=congrArg (·%k) e0
        simp only[Nat.add_mul_mod_self_left]at this
        rw[this,Nat.mod_eq_of_lt hlt]
      rw[e1,e2]
      simp
theorem zcR {α:Type} [Inhabited α] (f:α→List Value) (ok:α→Prop) (k:Nat) (hk:0<k) (tl te:TypeId) (hu:prog.underlying tl=some (.slice te)) (hct:prog.cellsOf te=k) (hf:∀y,ok y→(f y).length=k)
  {H:Type} {enc:TypeId ×Value→H} {W:World} {b:Nat} {sp:Nat→Bool} {held:Bool} {fuel:Nat} {l:List Value} {x:DataW H ×List MemPlace}
  (hel:∀(m:Nat) (l:List Value) (z:DataW H ×List MemPlace),DataW.trod enc prog W b sp held m te l=some z→∃y,l=f y∧ok y)
  (h:DataW.trod enc prog W b sp held fuel tl l=some x):∃(a:Option Addr) (cap:Nat) (ys:List α),l=[.slice a ys.length cap]∧ys.length≤cap∧cap≤maxLen∧(∀y∈ys,ok y)∧RowOf f W a ys:=by
 rcases Deep.open_slice hu h with⟨rfl,_⟩|⟨a,len,cap,m,n,D,Pl,rfl,hb,hlc,hcm,hm,_,hel2⟩
 ·exact⟨none,0,[],rfl,by simp,by simp,by simp,.inl rfl⟩
 ·rw[hct]at hel2
  have hml:len≤m:=by rw[hm];split<;>omega
  have key:∀i,i<len→∃y:α,W.cells? b (a.add (i*k)) k=some (f y)∧ok y:=fun i hi=>by
   obtain⟨cs,h1,h2⟩:=hel2 i (by omega)
   obtain⟨y,rfl,hy⟩:=hel _ _ _ h2
   exact⟨y,h1,hy⟩
  obtain⟨R,hR⟩:=Deep.choose_lt key
  refine⟨some a,cap,(List.range len).map R,by simp,by simpa using hlc,hcm,?_,?_⟩
  ·intro y hy
   obtain⟨i,hi,rfl⟩:=List.mem_map.1 hy
   exact(hR i (List.mem_range.1 hi)).2
  ·by_cases h0:len=0
   ·left;simp[h0]
   ·right
    obtain⟨bb,off,spot⟩:=a
    have hlen0:=hf _ (hR 0 (by omega)).2
    have hc:=(zhx (hR 0 (by omega)).1).2 0 ((f (R 0))[0]'(by omega)) (List.getElem?_eq_getElem _)
    have hspot:spot=none:=by simpa [Addr.add]using World.cell?_spot hc
    subst hspot
    refine⟨bb,off,rfl,?_,fun j v hv=>?_⟩
    ·have:=World.block_lt_of_cell? W _ hc;simpa [Addr.add]using this
    ·have hj:j<len*k:=by
      have:=(List.getElem?_eq_some_iff.1 hv).1
      rw[zem (k:=k)]at this
      ·simpa using this
      ·intro y hy
       obtain⟨i,hi,rfl⟩:=List.mem_map.1 hy
       exact hf _ (hR i (List.mem_range.1 hi)).2
     rw[zlQ hk R len (fun i hi=>hf _ (hR i hi).2) j hj]at hv
     have hdm:j / k<len:=(Nat.div_lt_iff_lt_mul hk).2 hj
     have:=(zhx (hR (j / k) hdm).1).2 _ _ hv
     rw[Addr.add_mid,Addr.add_mid]at this
     rw[←this]
     congr 2
     have:=Nat.div_add_mod j k
     rw[Nat.mul_comm]at this
     omega
theorem zV {α:Type} (l:List α) (o n k:Nat):(l.drop o).take (n+k)=(l.drop o).take n++(l.drop (o+n)).take k:=by
 rw[List.take_add,List.drop_drop]
theorem zbh {α:Type} {l:List α} {n:Nat} (h:l.length=n):l=(l.drop 0).take n:=by
 rw[List.drop_zero,List.take_of_length_le (by omega)]
theorem zi4 {H:Type} {enc:TypeId ×Value→H} {W:World} {b:Nat} {sp:Nat→Bool} {held:Bool} {fuel:Nat} {l:List Value} {x:DataW H ×List MemPlace}
  (h:DataW.trod enc prog W b sp held fuel 133 l=some x):∃r:Sg,l=SgE.f r∧SgE.ok r:=by
 have hct:prog.cellsOf 133=17:=by kernel_rfl
 obtain⟨xs,m,_,rfl,hcl,hl,hf⟩:=DataW.trod_struct underlying133 h
 rw[hct]at hcl
 have hl:xs.length=2:=hl
 have h0:DataW.trod enc prog W b sp held m 3 ((l.drop 0).take (prog.cellsOf 3))=xs[0]? :=hf 0 _ rfl
 rw[show prog.cellsOf 3=1 by kernel_rfl]at h0
 obtain⟨y0,e0⟩:=zH hl (show 0<2 by omega)
 obtain⟨z0,g0,_,wz0⟩:=DataW.trod_int underlying3 (h0.trans e0)
 have bz0:=wf64 wz0
 have h1:DataW.trod enc prog W b sp held m 23 ((l.drop 1).take (prog.cellsOf 23))=xs[1]? :=hf 1 _ rfl
 rw[show prog.cellsOf 23=16 by kernel_rfl]at h1
 obtain⟨y1,e1⟩:=zH hl (show 1<2 by omega)
 obtain⟨z1,g1,lz1,bz1⟩:=zcu underlying23 (by kernel_rfl) (h1.trans e1)
 refine⟨⟨z0,z1⟩,?_,⟨lz1,bz1,bz0.1,bz0.2⟩⟩
 have e:=zbh (n:=1+(16)) hcl
 rw[zV,g0,g1]at e
 first|exact e|(rw[e];rfl)|(rw[e];simp)
theorem zmg {H:Type} {enc:TypeId ×Value→H} {W:World} {b:Nat} {sp:Nat→Bool} {held:Bool} {fuel:Nat} {l:List Value} {x:DataW H ×List MemPlace}
  (h:DataW.trod enc prog W b sp held fuel 25 l=some x):∃r:Ev,l=EvE.f r∧EvE.ok r:=by
 have hct:prog.cellsOf 25=18:=by kernel_rfl
 obtain⟨xs,m,_,rfl,hcl,hl,hf⟩:=DataW.trod_struct underlying25 h
 rw[hct]at hcl
 have hl:xs.length=3:=hl
 have h0:DataW.trod enc prog W b sp held m 3 ((l.drop 0).take (prog.cellsOf 3))=xs[0]? :=hf 0 _ rfl
 rw[show prog.cellsOf 3=1 by kernel_rfl]at h0
 obtain⟨y0,e0⟩:=zH hl (show 0<3 by omega)
 obtain⟨z0,g0,_,wz0⟩:=DataW.trod_int underlying3 (h0.trans e0)
 have bz0:=wf64 wz0
 have h1:DataW.trod enc prog W b sp held m 9 ((l.drop 1).take (prog.cellsOf 9))=xs[1]? :=hf 1 _ rfl
 rw[show prog.cellsOf 9=1 by kernel_rfl]at h1
 obtain⟨y1,e1⟩:=zH hl (show 1<3 by omega)
 obtain⟨z1,g1,_,bz1⟩:=DataW.trod_string underlying9 (h1.trans e1)
 have h2:DataW.trod enc prog W b sp held m 23 ((l.drop 2).take (prog.cellsOf 23))=xs[2]? :=hf 2 _ rfl
 rw[show prog.cellsOf 23=16 by kernel_rfl]at h2
 obtain⟨y2,e2⟩:=zH hl (show 2<3 by omega)
 obtain⟨z2,g2,lz2,bz2⟩:=zcu underlying23 (by kernel_rfl) (h2.trans e2)
 refine⟨⟨z0,z1,z2⟩,?_,⟨lz2,bz2,bz1,bz0.1,bz0.2⟩⟩
 have e:=zbh (n:=1+(1+(16))) hcl
 rw[zV,zV,g0,g1,g2]at e
 first|exact e|(rw[e];rfl)|(rw[e];simp)
theorem zjQ {H:Type} {enc:TypeId ×Value→H} {W:World} {b:Nat} {sp:Nat→Bool} {held:Bool} {fuel:Nat} {l:List Value} {x:DataW H ×List MemPlace}
  (h:DataW.trod enc prog W b sp held fuel 81 l=some x):∃r:Rq,l=RqE.f r∧RqE.ok r:=by
 have hct:prog.cellsOf 81=19:=by kernel_rfl
 obtain⟨xs,m,_,rfl,hcl,hl,hf⟩:=DataW.trod_struct underlying81 h
 rw[hct]at hcl
 have hl:xs.length=4:=hl
 have h0:DataW.trod enc prog W b sp held m 3 ((l.drop 0).take (prog.cellsOf 3))=xs[0]? :=hf 0 _ rfl
 rw[show prog.cellsOf 3=1 by kernel_rfl]at h0
 obtain⟨y0,e0⟩:=zH hl (show 0<4 by omega)
 obtain⟨z0,g0,_,wz0⟩:=DataW.trod_int underlying3 (h0.trans e0)
 have bz0:=wf64 wz0
 have h1:DataW.trod enc prog W b sp held m 3 ((l.drop 1).take (prog.cellsOf 3))=xs[1]? :=hf 1 _ rfl
 rw[show prog.cellsOf 3=1 by kernel_rfl]at h1
 obtain⟨y1,e1⟩:=zH hl (show 1<4 by omega)
 obtain⟨z1,g1,_,wz1⟩:=DataW.trod_int underlying3 (h1.trans e1)
 have bz1:=wf64 wz1
 have h2:DataW.trod enc prog W b sp held m 9 ((l.drop 2).take (prog.cellsOf 9))=xs[2]? :=hf 2 _ rfl
 rw[show prog.cellsOf 9=1 by kernel_rfl]at h2
 obtain⟨y2,e2⟩:=zH hl (show 2<4 by omega)
 obtain⟨z2,g2,_,bz2⟩:=DataW.trod_string underlying9 (h2.trans e2)
 have h3:DataW.trod enc prog W b sp held m 23 ((l.drop 3).take (prog.cellsOf 23))=xs[3]? :=hf 3 _ rfl
 rw[show prog.cellsOf 23=16 by kernel_rfl]at h3
 obtain⟨y3,e3⟩:=zH hl (show 3<4 by omega)
 obtain⟨z3,g3,lz3,bz3⟩:=zcu underlying23 (by kernel_rfl) (h3.trans e3)
 refine⟨⟨z0,z1,z2,z3⟩,?_,⟨lz3,bz3,bz2,bz0.1,bz0.2,bz1.1,bz1.2⟩⟩
 have e:=zbh (n:=1+(1+(1+(16)))) hcl
 rw[zV,zV,zV,g0,g1,g2,g3]at e
 first|exact e|(rw[e];rfl)|(rw[e];simp)
theorem zft {H:Type} {enc:TypeId ×Value→H} {W:World} {b:Nat} {sp:Nat→Bool} {held:Bool} {fuel:Nat} {l:List Value} {x:DataW H ×List MemPlace}
  (h:DataW.trod enc prog W b sp held fuel 48 l=some x):∃y:Sl Sg,l=[y.val]∧y.At SgE W:=by
 obtain⟨a,cap,ys,h1,h2,h3,h4,h5⟩:=zcR SgE.f SgE.ok 17 (by decide) 48 133 underlying48 (by kernel_rfl) SgE.len (fun m l z hz=>zi4 hz) h
 exact⟨⟨a,cap,ys⟩,h1,Nat.le_trans h2 h3,h4,h5⟩
theorem zme {H:Type} {enc:TypeId ×Value→H} {W:World} {b:Nat} {sp:Nat→Bool} {held:Bool} {fuel:Nat} {l:List Value} {x:DataW H ×List MemPlace}
  (h:DataW.trod enc prog W b sp held fuel 47 l=some x):∃y:Sl Ev,l=[y.val]∧y.At EvE W:=by
 obtain⟨a,cap,ys,h1,h2,h3,h4,h5⟩:=zcR EvE.f EvE.ok 18 (by decide) 47 25 underlying47 (by kernel_rfl) EvE.len (fun m l z hz=>zmg hz) h
 exact⟨⟨a,cap,ys⟩,h1,Nat.le_trans h2 h3,h4,h5⟩
theorem zjP {H:Type} {enc:TypeId ×Value→H} {W:World} {b:Nat} {sp:Nat→Bool} {held:Bool} {fuel:Nat} {l:List Value} {x:DataW H ×List MemPlace}
  (h:DataW.trod enc prog W b sp held fuel 37 l=some x):∃y:Sl Rq,l=[y.val]∧y.At RqE W:=by
 obtain⟨a,cap,ys,h1,h2,h3,h4,h5⟩:=zcR RqE.f RqE.ok 19 (by decide) 37 81 underlying37 (by kernel_rfl) RqE.len (fun m l z hz=>zjQ hz) h
 exact⟨⟨a,cap,ys⟩,h1,Nat.le_trans h2 h3,h4,h5⟩
theorem zhN {H:Type} {enc:TypeId ×Value→H} {W:World} {b:Nat} {sp:Nat→Bool} {held:Bool} {fuel:Nat} {l:List Value} {x:DataW H ×List MemPlace}
  (h:DataW.trod enc prog W b sp held fuel 39 l=some x):∃(q:Bool) (r:Sl Rq),l=[.bool q,r.val]∧r.At RqE W:=by
 have hct:prog.cellsOf 39=2:=by kernel_rfl
 obtain⟨xs,m,_,rfl,hcl,hl,hf⟩:=DataW.trod_struct underlying39 h
 rw[hct]at hcl
 have hl:xs.length=2:=hl
 have h0:DataW.trod enc prog W b sp held m 4 ((l.drop 0).take (prog.cellsOf 4))=xs[0]? :=hf 0 _ rfl
 rw[show prog.cellsOf 4=1 by kernel_rfl]at h0
 obtain⟨y0,e0⟩:=zH hl (show 0<2 by omega)
 obtain⟨z0,g0,_⟩:=DataW.trod_bool underlying4 (h0.trans e0)
 have h1:DataW.trod enc prog W b sp held m 37 ((l.drop 1).take (prog.cellsOf 37))=xs[1]? :=hf 1 _ rfl
 rw[show prog.cellsOf 37=1 by kernel_rfl]at h1
 obtain⟨y1,e1⟩:=zH hl (show 1<2 by omega)
 obtain⟨z1,g1,bz1⟩:=zjP (h1.trans e1)
 refine⟨z0,z1,?_,bz1⟩
 have e:=zbh (n:=1+(1)) hcl
 rw[zV,g0,g1]at e
 first|exact e|(rw[e];rfl)|(rw[e];simp)
theorem zhs {H:Type} {enc:TypeId ×Value→H} {W:World} {b:Nat} {sp:Nat→Bool} {held:Bool} {fuel:Nat} {l:List Value} {x:DataW H ×List MemPlace}
  (h:DataW.trod enc prog W b sp held fuel 50 l=some x):∃(v:Vt) (r:Sl Sg),l=certL v r∧v.ok∧r.At SgE W:=by
 have hct:prog.cellsOf 50=37:=by kernel_rfl
 obtain⟨xs,m,_,rfl,hcl,hl,hf⟩:=DataW.trod_struct underlying50 h
 rw[hct]at hcl
 have hl:xs.length=2:=hl
 have h0:DataW.trod enc prog W b sp held m 43 ((l.drop 0).take (prog.cellsOf 43))=xs[0]? :=hf 0 _ rfl
 rw[show prog.cellsOf 43=36 by kernel_rfl]at h0
 obtain⟨y0,e0⟩:=zH hl (show 0<2 by omega)
 obtain⟨z0,g0,bz0⟩:=ze8 (h0.trans e0)
 have h1:DataW.trod enc prog W b sp held m 48 ((l.drop 36).take (prog.cellsOf 48))=xs[1]? :=hf 1 _ rfl
 rw[show prog.cellsOf 48=1 by kernel_rfl]at h1
 obtain⟨y1,e1⟩:=zH hl (show 1<2 by omega)
 obtain⟨z1,g1,bz1⟩:=zft (h1.trans e1)
 refine⟨z0,z1,?_,bz0,bz1⟩
 have e:=zbh (n:=36+(1)) hcl
 rw[zV,g0,g1]at e
 first|exact e|(rw[e];rfl)|(rw[e];simp)
theorem zll {H:Type} {enc:TypeId ×Value→H} {W:World} {b:Nat} {sp:Nat→Bool} {held:Bool} {fuel:Nat} {l:List Value} {x:DataW H ×List MemPlace}
  (h:DataW.trod enc prog W b sp held fuel 113 l=some x):∃r:Hd,l=HdE.f r∧(HdE.ok r∧r.At W):=by
 have hct:prog.cellsOf 113=39:=by kernel_rfl
 obtain⟨xs,m,_,rfl,hcl,hl,hf⟩:=DataW.trod_struct underlying113 h
 rw[hct]at hcl
 have hl:xs.length=2:=hl
 have h0:DataW.trod enc prog W b sp held m 39 ((l.drop 0).take (prog.cellsOf 39))=xs[0]? :=hf 0 _ rfl
 rw[show prog.cellsOf 39=2 by kernel_rfl]at h0
 obtain⟨y0,e0⟩:=zH hl (show 0<2 by omega)
 obtain⟨q0,z0,g0,bz0⟩:=zhN (h0.trans e0)
 have h1:DataW.trod enc prog W b sp held m 50 ((l.drop 2).take (prog.cellsOf 50))=xs[1]? :=hf 1 _ rfl
 rw[show prog.cellsOf 50=37 by kernel_rfl]at h1
 obtain⟨y1,e1⟩:=zH hl (show 1<2 by omega)
 obtain⟨v1,z1,g1,bv1,bz1⟩:=zhs (h1.trans e1)
 refine⟨⟨q0,z0,v1,z1⟩,?_,bv1,bz0,bz1⟩
 have e:=zbh (n:=2+(37)) hcl
 rw[zV,g0,g1]at e
 first|exact e|(rw[e];rfl)|(rw[e];simp)
theorem zlk {H:Type} {enc:TypeId ×Value→H} {W:World} {b:Nat} {sp:Nat→Bool} {held:Bool} {fuel:Nat} {l:List Value} {x:DataW H ×List MemPlace}
  (h:DataW.trod enc prog W b sp held fuel 44 l=some x):∃y:Sl Hd,l=[y.val]∧HdsAt W y:=by
 obtain⟨a,cap,ys,h1,h2,h3,h4,h5⟩:=zcR HdE.f (fun r=>HdE.ok r∧r.At W) 39 (by decide) 44 113 underlying44 (by kernel_rfl) (fun y hy=>HdE.len y hy.1) (fun m l z hz=>zll hz) h
 exact⟨⟨a,cap,ys⟩,h1,⟨Nat.le_trans h2 h3,fun y hy=>(h4 y hy).1,h5⟩,fun y hy=>(h4 y hy).2⟩
theorem zmL {H:Type} {enc:TypeId ×Value→H} {W:World} {b:Nat} {sp:Nat→Bool} {held:Bool} {fuel:Nat} {l:List Value} {x:DataW H ×List MemPlace}
  (h:DataW.trod enc prog W b sp held fuel 46 l=some x):∃(a c d:Int) (r:Sl Hd),l=[.int .i64 a,.int .i64 c,.int .i64 d,r.val]∧HdsAt W r:=by
 have hct:prog.cellsOf 46=4:=by kernel_rfl
 obtain⟨xs,m,_,rfl,hcl,hl,hf⟩:=DataW.trod_struct underlying46 h
 rw[hct]at hcl
 have hl:xs.length=4:=hl
 have h0:DataW.trod enc prog W b sp held m 3 ((l.drop 0).take (prog.cellsOf 3))=xs[0]? :=hf 0 _ rfl
 rw[show prog.cellsOf 3=1 by kernel_rfl]at h0
 obtain⟨y0,e0⟩:=zH hl (show 0<4 by omega)
 obtain⟨z0,g0,_,wz0⟩:=DataW.trod_int underlying3 (h0.trans e0)
 have bz0:=wf64 wz0
 have h1:DataW.trod enc prog W b sp held m 3 ((l.drop 1).take (prog.cellsOf 3))=xs[1]? :=hf 1 _ rfl
 rw[show prog.cellsOf 3=1 by kernel_rfl]at h1
 obtain⟨y1,e1⟩:=zH hl (show 1<4 by omega)
 obtain⟨z1,g1,_,wz1⟩:=DataW.trod_int underlying3 (h1.trans e1)
 have bz1:=wf64 wz1
 have h2:DataW.trod enc prog W b sp held m 3 ((l.drop 2).take (prog.cellsOf 3))=xs[2]? :=hf 2 _ rfl
 rw[show prog.cellsOf 3=1 by kernel_rfl]at h2
 obtain⟨y2,e2⟩:=zH hl (show 2<4 by omega)
 obtain⟨z2,g2,_,wz2⟩:=DataW.trod_int underlying3 (h2.trans e2)
 have bz2:=wf64 wz2
 have h3:DataW.trod enc prog W b sp held m 44 ((l.drop 3).take (prog.cellsOf 44))=xs[3]? :=hf 3 _ rfl
 rw[show prog.cellsOf 44=1 by kernel_rfl]at h3
 obtain⟨y3,e3⟩:=zH hl (show 3<4 by omega)
 obtain⟨z3,g3,bz3⟩:=zlk (h3.trans e3)
 refine⟨z0,z1,z2,z3,?_,bz3⟩
 have e:=zbh (n:=1+(1+(1+(1)))) hcl
 rw[zV,zV,zV,g0,g1,g2,g3]at e
 first|exact e|(rw[e];rfl)|(rw[e];simp)
theorem zkN {H:Type} {enc:TypeId ×Value→H} {W:World} {b:Nat} {sp:Nat→Bool} {held:Bool} {fuel:Nat} {l:List Value} {x:DataW H ×List MemPlace}
  (h:DataW.trod enc prog W b sp held fuel 52 l=some x):∃m:Mg,l=m.ms.cells∧m.ok∧m.At W:=by
 have hct:prog.cellsOf 52=119:=by kernel_rfl
 obtain⟨xs,m,_,rfl,hcl,hl,hf⟩:=DataW.trod_struct underlying52 h
 rw[hct]at hcl
 have hl:xs.length=13:=hl
 have h0:DataW.trod enc prog W b sp held m 3 ((l.drop 0).take (prog.cellsOf 3))=xs[0]? :=hf 0 _ rfl
 rw[show prog.cellsOf 3=1 by kernel_rfl]at h0
 obtain⟨y0,e0⟩:=zH hl (show 0<13 by omega)
 obtain⟨z0,g0,_,wz0⟩:=DataW.trod_int underlying3 (h0.trans e0)
 have bz0:=wf64 wz0
 have h1:DataW.trod enc prog W b sp held m 3 ((l.drop 1).take (prog.cellsOf 3))=xs[1]? :=hf 1 _ rfl
 rw[show prog.cellsOf 3=1 by kernel_rfl]at h1
 obtain⟨y1,e1⟩:=zH hl (show 1<13 by omega)
 obtain⟨z1,g1,_,wz1⟩:=DataW.trod_int underlying3 (h1.trans e1)
 have bz1:=wf64 wz1
 have h2:DataW.trod enc prog W b sp held m 3 ((l.drop 2).take (prog.cellsOf 3))=xs[2]? :=hf 2 _ rfl
 rw[show prog.cellsOf 3=1 by kernel_rfl]at h2
 obtain⟨y2,e2⟩:=zH hl (show 2<13 by omega)
 obtain⟨z2,g2,_,wz2⟩:=DataW.trod_int underlying3 (h2.trans e2)
 have bz2:=wf64 wz2
 have h3:DataW.trod enc prog W b sp held m 3 ((l.drop 3).take (prog.cellsOf 3))=xs[3]? :=hf 3 _ rfl
 rw[show prog.cellsOf 3=1 by kernel_rfl]at h3
 obtain⟨y3,e3⟩:=zH hl (show 3<13 by omega)
 obtain⟨z3,g3,_,wz3⟩:=DataW.trod_int underlying3 (h3.trans e3)
 have bz3:=wf64 wz3
 have h4:DataW.trod enc prog W b sp held m 3 ((l.drop 4).take (prog.cellsOf 3))=xs[4]? :=hf 4 _ rfl
 rw[show prog.cellsOf 3=1 by kernel_rfl]at h4
 obtain⟨y4,e4⟩:=zH hl (show 4<13 by omega)
 obtain⟨z4,g4,_,wz4⟩:=DataW.trod_int underlying3 (h4.trans e4)
 have bz4:=wf64 wz4
 have h5:DataW.trod enc prog W b sp held m 39 ((l.drop 5).take (prog.cellsOf 39))=xs[5]? :=hf 5 _ rfl
 rw[show prog.cellsOf 39=2 by kernel_rfl]at h5
 obtain⟨y5,e5⟩:=zH hl (show 5<13 by omega)
 obtain⟨q5,z5,g5,bz5⟩:=zhN (h5.trans e5)
 have h6:DataW.trod enc prog W b sp held m 43 ((l.drop 7).take (prog.cellsOf 43))=xs[6]? :=hf 6 _ rfl
 rw[show prog.cellsOf 43=36 by kernel_rfl]at h6
 obtain⟨y6,e6⟩:=zH hl (show 6<13 by omega)
 obtain⟨z6,g6,bz6⟩:=ze8 (h6.trans e6)
 have h7:DataW.trod enc prog W b sp held m 46 ((l.drop 43).take (prog.cellsOf 46))=xs[7]? :=hf 7 _ rfl
 rw[show prog.cellsOf 46=4 by kernel_rfl]at h7
 obtain⟨y7,e7⟩:=zH hl (show 7<13 by omega)
 obtain⟨ca7,cb7,cc7,z7,g7,bz7⟩:=zmL (h7.trans e7)
 have h8:DataW.trod enc prog W b sp held m 47 ((l.drop 47).take (prog.cellsOf 47))=xs[8]? :=hf 8 _ rfl
 rw[show prog.cellsOf 47=1 by kernel_rfl]at h8
 obtain⟨y8,e8⟩:=zH hl (show 8<13 by omega)
 obtain⟨z8,g8,bz8⟩:=zme (h8.trans e8)
 have h9:DataW.trod enc prog W b sp held m 41 ((l.drop 48).take (prog.cellsOf 41))=xs[9]? :=hf 9 _ rfl
 rw[show prog.cellsOf 41=32 by kernel_rfl]at h9
 obtain⟨y9,e9⟩:=zH hl (show 9<13 by omega)
 obtain⟨z9,g9,lz9,bz9⟩:=zcu underlying41 (by kernel_rfl) (h9.trans e9)
 have h10:DataW.trod enc prog W b sp held m 50 ((l.drop 80).take (prog.cellsOf 50))=xs[10]? :=hf 10 _ rfl
 rw[show prog.cellsOf 50=37 by kernel_rfl]at h10
 obtain⟨y10,e10⟩:=zH hl (show 10<13 by omega)
 obtain⟨v10,z10,g10,bv10,bz10⟩:=zhs (h10.trans e10)
 have h11:DataW.trod enc prog W b sp held m 9 ((l.drop 117).take (prog.cellsOf 9))=xs[11]? :=hf 11 _ rfl
 rw[show prog.cellsOf 9=1 by kernel_rfl]at h11
 obtain⟨y11,e11⟩:=zH hl (show 11<13 by omega)
 obtain⟨z11,g11,_,bz11⟩:=DataW.trod_string underlying9 (h11.trans e11)
 have h12:DataW.trod enc prog W b sp held m 48 ((l.drop 118).take (prog.cellsOf 48))=xs[12]? :=hf 12 _ rfl
 rw[show prog.cellsOf 48=1 by kernel_rfl]at h12
 obtain⟨y12,e12⟩:=zH hl (show 12<13 by omega)
 obtain⟨z12,g12,bz12⟩:=zft (h12.trans e12)
 refine⟨⟨z0,z1,z2,z3,z4,q5,z5,z6,ca7,cb7,cc7,z7,z8,z9,v10,z10,z11,z12⟩,?_,⟨bz6,bv10,lz9,bz9⟩,⟨bz5,bz7,bz8,bz10,bz12⟩⟩
 have e:=zbh (n:=1+(1+(1+(1+(1+(2+(36+(4+(1+(32+(37+(1+(1))))))))))))) hcl
 rw[zV,zV,zV,zV,zV,zV,zV,zV,zV,zV,zV,zV,g0,g1,g2,g3,g4,g5,g6,g7,g8,g9,g10,g11,g12]at e
 rw[e];simp[Mg.ms,Ms.cells,certL,List.append_assoc]
theorem zky {H:Type} {enc:TypeId ×Value→H} {W:World} {base b:Nat} {sp:Nat→Bool} {held:Bool} {fuel:Nat} {v:Value} {x:DataW H ×List MemPlace} (hv:Value.okWide prog W .any base 52 v)
  (h:DataW.trod enc prog W b sp held fuel 52 v.cells.toList=some x):∃m:Mg,v=.agg m.ms.cells.toArray∧m.ok∧m.At W:=by
 unfold Value.okWide at hv
 rw[underlying52]at hv
 obtain⟨cs,rfl,hsz,_⟩:=hv
 obtain⟨r,h1,h2,h3⟩:=zkN h
 refine⟨r,?_,h2,h3⟩
 simp only[Value.cells]at h1
 rw[←h1]
end Go.Proofs.YtcbpbkefggekmaaGreatDoor
namespace Go.Proofs.YtcbpbkefggekmaaGreatDoor
open Go.ChangeShapes Go.WideShapes Go.ChangeAt Go.RowKit
open Sha
def zcl {H : Type} : List (String × DataW H) := [("raddle/digest.starts", Rows.laid_raddle_digest_starts), ("raddle/digest.roots", Rows.laid_raddle_digest_roots)]
theorem gS : prog.globalNamed "raddle/digest.starts" = some 0 := by kernel_rfl
theorem gR : prog.globalNamed "raddle/digest.roots" = some 1 := by kernel_rfl
theorem tS:(prog.globals[0]?).map (·.type)=some 168:=by kernel_rfl
theorem tR:(prog.globals[1]?).map (·.type)=some 238:=by kernel_rfl
theorem zmo (os:Os) (args:Array Value):laidMetH prog zcl ((World.doorLaid prog 400 os).forCall (fun _ _=>0) ⟨#[],args,[]⟩).memory:=
 laidMetH_of_parts3 (fuel:=8) (laidMet_of_run' 8 (by kernel_rfl) (by kernel_rfl)) (by kernel_rfl) (by kernel_rfl)
def startZ:List Int:=(list init).map fun x=>(x.toNat:Int)
def rootZ:List Int:=kl.map fun x=>(x.toNat:Int)
theorem ziZ {H:Type}:(Rows.laid_raddle_digest_starts:DataW H)=Lib.tabData .u32 startZ:=by kernel_rfl
theorem zjz {H:Type}:(Rows.laid_raddle_digest_roots:DataW H)=Lib.tabData .u32 rootZ:=by kernel_rfl
theorem zlA {W:World} (h:laidMetH prog zcl W):Glob W:=by
 rw[MakeChecks.laidMetH_plain _ _ _ (by kernel_rfl)]at h
 obtain⟨ps,⟨g0,t0,cs0,f0,p0,q0,hg0,ht0,hv0,hd0,⟨g1,t1,cs1,f1,p1,q1,hg1,ht1,hv1,hd1,_,_⟩,_⟩,_,_⟩:=h
 obtain rfl:=Option.some.inj (gS.symm.trans hg0)
 obtain rfl:=Option.some.inj (gR.symm.trans hg1)
 obtain rfl:=Option.some.inj (tS.symm.trans ht0)
 obtain rfl:=Option.some.inj (tR.symm.trans ht1)
 rw[ziZ]at hd0
 rw[zjz]at hd1
 have e0:=Lib.cells_of_tab underlying168 underlying167 (by kernel_rfl) (by kernel_rfl) hd0
 have e1:=Lib.cells_of_tab underlying238 underlying167 (by kernel_rfl) (by kernel_rfl) hd1
 have r0:W.rangeAt 0 0 (v32 (list init)):=fun j v hv=>by
  have:=World.var?_cell hg0 hv0 j
  rw[Nat.zero_add,this,←Array.getElem?_toList,e0]
  simpa [startZ,v32]using hv
 have r1:W.rangeAt 1 0 (v32 kl):=fun j v hv=>by
  have:=World.var?_cell hg1 hv1 j
  rw[Nat.zero_add,this,←Array.getElem?_toList,e1]
  simpa [rootZ,v32]using hv
 refine⟨r0,r1,?_⟩
 have:=World.block_lt_of_cell? W _ (r1 0 _ rfl)
 exact this
end Go.Proofs.YtcbpbkefggekmaaGreatDoor
namespace Go.Proofs.YtcbpbkefggekmaaGreatDoor.envelopeSealed
open Go.ChangeShapes Go.WideShapes Go.ChangeAt Go.RowKit
open Go.ChangeMaps (open_string shut_string)
set_option linter.unusedVariables false
theorem lifted (os:Os) (started:os.Started) (H:Type) (enc:TypeId ×Value→H):
  ReturnsInHanded {} checked os 6 .any (fun w args=>(Rows.envelopeSealedSpec.pre enc prog Tryz.f6 [] false w args∧laidMetH prog zcl w)∧sizedMet enc prog Tryz.f6 (OpenSpec.ofChange Rows.envelopeSealedSpec) false w args)
   (Rows.envelopeSealedSpec.post enc prog Tryz.f6 false true false false):=by
 refine returnsInHanded_of_change_and (C:=checked) (X:=fun w _=>laidMetH prog zcl w) (fun _ _ _ hh h=>h.of_heap hh) own started (by kernel_rfl) func6
  (ChangeSpec.witness_shaped (enc:=enc) (C:=checked) (os:=os) (X:=fun w _=>laidMetH prog zcl w) false (World.doorLaid prog 400 os) #[.agg #[.int .i64 0,.int .i64 0,.int .i64 0,.int .i64 0,.int .i64 0,.bool false,.slice none 0 0,.int .i64 0,.int .i64 0,.int .i64 0,.int .i64 0,.int .u8 0,.int .u8 0,.int .u8 0,.int .u8 0,.int .u8 0,.int .u8 0,.int .u8 0,.int .u8 0,.int .u8 0,.int .u8 0,.int .u8 0,.int .u8 0,.int .u8 0,.int .u8 0,.int .u8 0,.int .u8 0,.int .u8 0,.int .u8 0,.int .u8 0,.int .u8 0,.int .u8 0,.int .u8 0,.int .u8 0,.int .u8 0,.int .u8 0,.int .u8 0,.int .u8 0,.int .u8 0,.int .u8 0,.int .u8 0,.int .u8 0,.int .u8 0,.int .i64 0,.int .i64 0,.int .i64 0,.slice none 0 0,.slice none 0 0,.int .u8 0,.int .u8 0,.int .u8 0,.int .u8 0,.int .u8 0,.int .u8 0,.int .u8 0,.int .u8 0,.int .u8 0,.int .u8 0,.int .u8 0,.int .u8 0,.int .u8 0,.int .u8 0,.int .u8 0,.int .u8 0,.int .u8 0,.int .u8 0,.int .u8 0,.int .u8 0,.int .u8 0,.int .u8 0,.int .u8 0,.int .u8 0,.int .u8 0,.int .u8 0,.int .u8 0,.int .u8 0,.int .u8 0,.int .u8 0,.int .u8 0,.int .u8 0,.int .i64 0,.int .i64 0,.int .i64 0,.int .i64 0,.int .u8 0,.int .u8 0,.int .u8 0,.int .u8 0,.int .u8 0,.int .u8 0,.int .u8 0,.int .u8 0,.int .u8 0,.int .u8 0,.int .u8 0,.int .u8 0,.int .u8 0,.int .u8 0,.int .u8 0,.int .u8 0,.int .u8 0,.int .u8 0,.int .u8 0,.int .u8 0,.int .u8 0,.int .u8 0,.int .u8 0,.int .u8 0,.int .u8 0,.int .u8 0,.int .u8 0,.int .u8 0,.int .u8 0,.int .u8 0,.int .u8 0,.int .u8 0,.slice none 0 0,.string ByteArray.empty,.slice none 0 0],.int .i64 0,.int .i64 0,.string ByteArray.empty] 8 rfl (World.shaped_of_RefB (by kernel_rfl) (by kernel_rfl)) (by kernel_rfl) (by kernel_rfl) (by kernel_rfl) (zmo os _)) ?_
 intro W base args ds gs before hval0 hW _ _ hL _
 have hval:∀(j:Nat) t v,Tryz.f6.params[j]? =some t→args[j]? =some v→Value.okWide prog W .any base t v:=hval0
 have hW':=hW
 obtain⟨p,q,hA0,hV,rfl,hfz,hnd⟩:=hW
 have hA:DataW.TrodAll enc prog W 0 (fun _=>true) true Tryz.f6.params.toList args.toList ds p:=hA0
 rw[params6]at hA hval
 obtain⟨v0,vs0,d0,ds0,p0,q0,hargs,rfl,rfl,h0,r0⟩:=trodAll_cons hA
 obtain⟨v1,vs1,d1,ds1,p1,q1,rfl,rfl,rfl,h1,r1⟩:=trodAll_cons r0
 obtain⟨v2,vs2,d2,ds2,p2,q2,rfl,rfl,rfl,h2,r2⟩:=trodAll_cons r1
 obtain⟨v3,vs3,d3,ds3,p3,q3,rfl,rfl,rfl,h3,r3⟩:=trodAll_cons r2
 obtain⟨rfl,rfl,rfl⟩:=trodAll_nil r3
 obtain rfl:args=#[v0,v1,v2,v3]:=by cases args;simp_all
 obtain⟨rfl,rfl⟩:=trodVars_none hV
 have k0:=h0
 have lt0:∀x∈p0,x.block<W.heap.size:=by obtain⟨m,hm⟩:=k0;exact DataW.trod_lt m _ _ _ hm
 have k1:=h1
 have lt1:∀x∈p1,x.block<W.heap.size:=by obtain⟨m,hm⟩:=k1;exact DataW.trod_lt m _ _ _ hm
 have k2:=h2
 have lt2:∀x∈p2,x.block<W.heap.size:=by obtain⟨m,hm⟩:=k2;exact DataW.trod_lt m _ _ _ hm
 have k3:=h3
 have lt3:∀x∈p3,x.block<W.heap.size:=by obtain⟨m,hm⟩:=k3;exact DataW.trod_lt m _ _ _ hm
 obtain⟨fuel0,hf0⟩:=h0
 obtain⟨x0,rfl,ok0,at0⟩:=zky (hval 0 52 v0 rfl rfl) hf0
 obtain⟨n1,rfl,rfl,rfl,hn1⟩:=open_int underlying3 (hval 1 3 v1 rfl rfl) h1
 obtain⟨n2,rfl,rfl,rfl,hn2⟩:=open_int underlying3 (hval 2 3 v2 rfl rfl) h2
 obtain⟨s3,rfl,rfl,rfl,hs3⟩:=open_string underlying9 (hval 3 9 v3 rfl rfl) h3
 have hG:=zlA hL
 clear hA0 hval0
 refine(zmf x0 n1 n2 s3 W ok0 at0 hG).mono fun e W' ⟨he,bel⟩=>?_
 subst he
 exact⟨_,rfl,_,_,_,[],_,[],hW',trodAll_mk1 (shut_bool underlying4 _),(trodAll_cons_mk (Below.trod laidOut (by kernel_rfl) (of_decide_eq_true (by kernel_rfl)) k0 bel lt0) (trodAll_cons_mk (Below.trod laidOut (by kernel_rfl) (of_decide_eq_true (by kernel_rfl)) k1 bel lt1) (trodAll_cons_mk (Below.trod laidOut (by kernel_rfl) (of_decide_eq_true (by kernel_rfl)) k2 bel lt2) (trodAll_cons_mk (Below.trod laidOut (by kernel_rfl) (of_decide_eq_true (by kernel_rfl)) k3 bel lt3) trodAll_mk0)))),rfl,bel.frame _,fun h=>by cases h⟩
theorem over:Rows.EnvelopeSealedSaid:=
 OpenClaim.holds_of_wide 6 Tryz.f6 rfl rfl rfl rfl rfl rfl rfl ⟨rfl,rfl,rfl,rfl,rfl⟩ rfl rfl rfl rfl rfl (by kernel_rfl) func6 (by kernel_rfl)
  (of_decide_eq_true (by kernel_rfl)) (by unfold Func.isWrapper;first|(rw[if_pos (by decide+kernel)];kernel_rfl)|(rw[if_neg (by decide+kernel)];exact⟨rfl,rfl⟩))
  (fun os started H enc _=>lifted os started H enc)
end Go.Proofs.YtcbpbkefggekmaaGreatDoor.envelopeSealed
namespace Go.Proofs.YtcbpbkefggekmaaGreatDoor
theorem envelopeSealed_card:Rows.EnvelopeSealedCardSaid:=
 Claim7.holds_tied_plain_at .later [] [.data, .data] true (true, "25d2a5b30884e3b71ad816cffc66fba19366bef644f7b28281847e0f0242141c") false
  envelopeSealed.over (fun _ h=>by cases h) (by kernel_rfl) (fun _ h=>by cases h) envelopeSealed_row_tie rfl ⟨rfl,rfl⟩ (by kernel_rfl) rfl
  (fun f fn hf hfn=>by
   obtain rfl : f = 6 := Option.some.inj ((show prog.funcNamed "raddle/raddlelaw14.EnvelopeSealed" = some 6 by kernel_rfl).symm.trans hf) |>.symm
   obtain rfl:fn=Tryz.f6:=(Option.some.inj (func6.symm.trans hfn)).symm
   exact⟨by kernel_rfl,fun j t ht=>by
    rw[params6]at ht
    rcases j with _|_|_|_|j
    ·obtain rfl:t=52:=by simpa using ht.symm
     exact(show prog.wantsStandIn 52=false by kernel_rfl)
    ·obtain rfl:t=3:=by simpa using ht.symm
     exact(show prog.wantsStandIn 3=false by kernel_rfl)
    ·obtain rfl:t=3:=by simpa using ht.symm
     exact(show prog.wantsStandIn 3=false by kernel_rfl)
    ·obtain rfl:t=9:=by simpa using ht.symm
     exact(show prog.wantsStandIn 9=false by kernel_rfl)
    ·simp at ht⟩)
  (by kernel_rfl)
#print axioms envelopeSealed_card
end Go.Proofs.YtcbpbkefggekmaaGreatDoor
