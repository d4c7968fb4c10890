/- allMay; which requests, signs, envelopes, batches, certs may be; which certs and changes may be; fieldsMay; Good; Encode, the program's and the document's; batc -/
import Derived.Test.YtcbpbkefggekmaaGreatDoorJE0
import Derived.Test.YtcbpbkefggekmaaGreatDoorJE5
import Derived.Test.YtcbpbkefggekmaaGreatDoorJE3
import Derived.Deep.Cut
import Derived.Deep.DeepCutAuto
import Derived.Test.YtcbpbkefggekmaaGreatDoorJE4
import Derived.WalkKit
import Derived.Deep.RegionHeld3
set_option maxHeartbeats 8000000
set_option maxRecDepth 100000
open Go.Proofs.Tryz
namespace Go.Proofs.YtcbpbkefggekmaaGreatDoor
open Go.RowKit
open Sha Tal
def Sg.zero:Sg:=⟨0,List.replicate 16 0⟩
def Ev.zero:Ev:=⟨0,⟨#[]⟩,List.replicate 16 0⟩
def Rq.zero:Rq:=⟨0,0,⟨#[]⟩,List.replicate 16 0⟩
def mayL {α:Type} (most:Int) (p:α→Bool) (xs:List α):Bool:=decide ((xs.length:Int)≤most)&&xs.all p
theorem zkM (x:Sl Sg) (most:Int) (p:Sg→Bool) (w:World) (hx:x.At SgE w) (hp:∀y∈x.xs,∀w0,Below w.heap.size w w0→Calls prog 170 #[.agg y.cells.toArray] w0 fun e w'=>e=.returned (.bool (p y))∧Below w0.heap.size w0 w'):
  Calls prog 169 #[x.val,.int .i64 most,.func (.func 170) #[] #[]] w fun e w'=>e=.returned (.bool (mayL most p x.xs))∧Below w.heap.size w w':=by
 obtain⟨a,cap,xs⟩:=x
 have hml:xs.length≤maxLen:=hx.1
 unfold maxLen at hml
 simp only[Sl.val]
 unfold mayL
 by_cases hlen:(xs.length:Int)≤most
 rotate_left
 ·rw[decide_eq_false hlen,Bool.false_and]
  have k0:most<(xs.length:Int):=by omega
  clear hlen hp
  go_enter func169,ntmps169
  go_wp2
  go_ret
  exact⟨rfl,Below.refl _ _⟩
 ·rw[decide_eq_true hlen,Bool.true_and]
  have k0:¬most<(xs.length:Int):=by omega
  clear hlen
  obtain⟨sb,hsb⟩:∃sb,Hid (xs.all p=sb):=⟨_,hide rfl⟩
  rw[hsb.out]
  go_enter func169,ntmps169
  go_wp2
  go_loopw [15] (fun iv wr'=>∃k:Nat,k≤xs.length∧iv=.int .i64 (k:Int)∧Hid (∀j (hj:j<xs.length),j<k→p xs[j]=true)∧Below w.heap.size w wr') (fun iv _=>xs.length - (intOf iv).toNat)
  case atStart=>exact⟨0,by omega,rfl,hide (fun j _ hj=>absurd hj (by omega)),Below.refl _ _⟩
  case round=>
   clear k0
   obtain⟨k,hk,rfl,HM,hB⟩:=hrel
   by_cases hlt:k<xs.length
   ·have k1:(k:Int)<xs.length:=by omega
    obtain⟨b,off,rfl,hb,hre⟩:=RowsAt.elem (hx.below hB) k hlt
    have hre:wr.rangeAt b (off+k*17) xs[k].cells:=hre
    have okx:SgE.ok xs[k]:=hx.2.1 _ (List.getElem_mem hlt)
    have hpk:=fun w0 h0=>hp xs[k] (List.getElem_mem hlt) w0 h0
    have HT:Hid (p xs[k]=true→∀j (hj:j<xs.length),j<k+1→p xs[j]=true):=hide (fun h j hj hjk=>by
     by_cases e:j=k
     ·subst e;exact h
     ·exact HM.out j hj (by omega))
    have HF:Hid (p xs[k]=false→sb=false):=hide (fun h=>by
     rw[←hsb.out]
     rw[List.all_eq_false]
     exact⟨xs[k],List.getElem_mem hlt,by rw[h];simp⟩)
    obtain⟨gx,hX⟩:∃g,Hid (xs[k]=g):=⟨_,hide rfl⟩
    rw[hX.out]at hre okx hpk HT HF
    clear hX HM
    have lu:gx.cells.length=17:=SgE.len _ okx
    have ou:gx.cells.toArray.all (·.oneCell')=true:=all_oneCell_toArray (SgE.one gx)
    generalize gx.cells=u at *
    generalize p gx=pb at *
    clear okx
    have iu:(prog.info? 133).map (·.size)=some u.length:=by rw[lu];kernel_rfl
    have iA:(prog.info? 133).map (·.size)=some u.toArray.size:=by rw[List.size_toArray,lu];kernel_rfl
    have zl:Sg.zero.cells.toArray.size=17:=rfl
    obtain⟨r5,hB5,hs5,_⟩:=zA wr Sg.zero.cells.toArray 133 u (by rw[lu];rfl)
    have hT5:(wr.alloc (.cells Sg.zero.cells.toArray 133)).there wr.heap.size 0 u.toArray.size:=by
     have:=zK wr Sg.zero.cells.toArray 133
     rw[zl]at this
     rw[show u.toArray.size=17 by simpa using lu]
     exact this
    go_upto_region 6 with(first|(refine wpList_load_mid rfl 133 _ rfl _ _ rfl u _ hre underlying133 rfl iu ?_)|(refine wpList_store_mid rfl 133 _ _ rfl _ _ u.toArray rfl rfl hT5 iA ou ?_))
    go_name_world w5 hw5
    rw[show(wr.alloc (.cells Sg.zero.cells.toArray 133)).setCells wr.heap.size 0 u=w5 from hw5]at r5 hB5 hs5
    have hB6:=hB.trans (hB5.mono hB.size)
    have c7:=hpk w5 hB6
    clear hw5 hs5 hT5 hre hpk hB5
    go_wp2_with (refine wpList_load_mid rfl 133 _ rfl _ _ rfl u _ r5 underlying133 rfl iu ?_)
    refine c7.mono ?_
    rintro e8 w8 ⟨rfl,hb8⟩
    have hB8:=hB6.trans (hb8.mono hB6.size)
    clear c7 hb8 r5 hB6
    cases pb
    ·have HF':=hide (HF.out rfl)
     clear HF HT hsb
     go_wp2
     go_ret
     exact⟨by rw[HF'.out];rfl,hB8⟩
    ·have HT':=hide (HT.out rfl)
     clear HF HT
     go_wp2
     go_roundw
     case rel=>exact⟨k+1,by omega,by go_num,HT',hB8⟩
     case measure=>simp[intOf];omega
   ·have k1:¬(k:Int)<xs.length:=by omega
    have HE:Hid (sb=true):=hide (by
     rw[←hsb.out]
     rw[List.all_eq_true]
     intro y hy
     obtain⟨j,hj,rfl⟩:=List.mem_iff_getElem.1 hy
     exact HM.out j hj (by omega))
    clear HM hsb
    go_wp2
    go_ret
    exact⟨by rw[HE.out];rfl,hB⟩
theorem zkP (x:Sl Ev) (most:Int) (p:Ev→Bool) (w:World) (hx:x.At EvE w) (hp:∀y∈x.xs,∀w0,Below w.heap.size w w0→Calls prog 141 #[.agg y.cells.toArray] w0 fun e w'=>e=.returned (.bool (p y))∧Below w0.heap.size w0 w'):
  Calls prog 140 #[x.val,.int .i64 most,.func (.func 141) #[] #[]] w fun e w'=>e=.returned (.bool (mayL most p x.xs))∧Below w.heap.size w w':=by
 obtain⟨a,cap,xs⟩:=x
 have hml:xs.length≤maxLen:=hx.1
 unfold maxLen at hml
 simp only[Sl.val]
 unfold mayL
 by_cases hlen:(xs.length:Int)≤most
 rotate_left
 ·rw[decide_eq_false hlen,Bool.false_and]
  have k0:most<(xs.length:Int):=by omega
  clear hlen hp
  go_enter func140,ntmps140
  go_wp2
  go_ret
  exact⟨rfl,Below.refl _ _⟩
 ·rw[decide_eq_true hlen,Bool.true_and]
  have k0:¬most<(xs.length:Int):=by omega
  clear hlen
  obtain⟨sb,hsb⟩:∃sb,Hid (xs.all p=sb):=⟨_,hide rfl⟩
  rw[hsb.out]
  go_enter func140,ntmps140
  go_wp2
  go_loopw [15] (fun iv wr'=>∃k:Nat,k≤xs.length∧iv=.int .i64 (k:Int)∧Hid (∀j (hj:j<xs.length),j<k→p xs[j]=true)∧Below w.heap.size w wr') (fun iv _=>xs.length - (intOf iv).toNat)
  case atStart=>exact⟨0,by omega,rfl,hide (fun j _ hj=>absurd hj (by omega)),Below.refl _ _⟩
  case round=>
   clear k0
   obtain⟨k,hk,rfl,HM,hB⟩:=hrel
   by_cases hlt:k<xs.length
   ·have k1:(k:Int)<xs.length:=by omega
    obtain⟨b,off,rfl,hb,hre⟩:=RowsAt.elem (hx.below hB) k hlt
    have hre:wr.rangeAt b (off+k*18) xs[k].cells:=hre
    have okx:EvE.ok xs[k]:=hx.2.1 _ (List.getElem_mem hlt)
    have hpk:=fun w0 h0=>hp xs[k] (List.getElem_mem hlt) w0 h0
    have HT:Hid (p xs[k]=true→∀j (hj:j<xs.length),j<k+1→p xs[j]=true):=hide (fun h j hj hjk=>by
     by_cases e:j=k
     ·subst e;exact h
     ·exact HM.out j hj (by omega))
    have HF:Hid (p xs[k]=false→sb=false):=hide (fun h=>by
     rw[←hsb.out]
     rw[List.all_eq_false]
     exact⟨xs[k],List.getElem_mem hlt,by rw[h];simp⟩)
    obtain⟨gx,hX⟩:∃g,Hid (xs[k]=g):=⟨_,hide rfl⟩
    rw[hX.out]at hre okx hpk HT HF
    clear hX HM
    have lu:gx.cells.length=18:=EvE.len _ okx
    have ou:gx.cells.toArray.all (·.oneCell')=true:=all_oneCell_toArray (EvE.one gx)
    generalize gx.cells=u at *
    generalize p gx=pb at *
    clear okx
    have iu:(prog.info? 25).map (·.size)=some u.length:=by rw[lu];kernel_rfl
    have iA:(prog.info? 25).map (·.size)=some u.toArray.size:=by rw[List.size_toArray,lu];kernel_rfl
    have zl:Ev.zero.cells.toArray.size=18:=rfl
    obtain⟨r5,hB5,hs5,_⟩:=zA wr Ev.zero.cells.toArray 25 u (by rw[lu];rfl)
    have hT5:(wr.alloc (.cells Ev.zero.cells.toArray 25)).there wr.heap.size 0 u.toArray.size:=by
     have:=zK wr Ev.zero.cells.toArray 25
     rw[zl]at this
     rw[show u.toArray.size=18 by simpa using lu]
     exact this
    go_upto_region 6 with(first|(refine wpList_load_mid rfl 25 _ rfl _ _ rfl u _ hre underlying25 rfl iu ?_)|(refine wpList_store_mid rfl 25 _ _ rfl _ _ u.toArray rfl rfl hT5 iA ou ?_))
    go_name_world w5 hw5
    rw[show(wr.alloc (.cells Ev.zero.cells.toArray 25)).setCells wr.heap.size 0 u=w5 from hw5]at r5 hB5 hs5
    have hB6:=hB.trans (hB5.mono hB.size)
    have c7:=hpk w5 hB6
    clear hw5 hs5 hT5 hre hpk hB5
    go_wp2_with (refine wpList_load_mid rfl 25 _ rfl _ _ rfl u _ r5 underlying25 rfl iu ?_)
    refine c7.mono ?_
    rintro e8 w8 ⟨rfl,hb8⟩
    have hB8:=hB6.trans (hb8.mono hB6.size)
    clear c7 hb8 r5 hB6
    cases pb
    ·have HF':=hide (HF.out rfl)
     clear HF HT hsb
     go_wp2
     go_ret
     exact⟨by rw[HF'.out];rfl,hB8⟩
    ·have HT':=hide (HT.out rfl)
     clear HF HT
     go_wp2
     go_roundw
     case rel=>exact⟨k+1,by omega,by go_num,HT',hB8⟩
     case measure=>simp[intOf];omega
   ·have k1:¬(k:Int)<xs.length:=by omega
    have HE:Hid (sb=true):=hide (by
     rw[←hsb.out]
     rw[List.all_eq_true]
     intro y hy
     obtain⟨j,hj,rfl⟩:=List.mem_iff_getElem.1 hy
     exact HM.out j hj (by omega))
    clear HM hsb
    go_wp2
    go_ret
    exact⟨by rw[HE.out];rfl,hB⟩
theorem zkN (x:Sl Rq) (most:Int) (p:Rq→Bool) (w:World) (hx:x.At RqE w) (hp:∀y∈x.xs,∀w0,Below w.heap.size w w0→Calls prog 166 #[.agg y.cells.toArray] w0 fun e w'=>e=.returned (.bool (p y))∧Below w0.heap.size w0 w'):
  Calls prog 165 #[x.val,.int .i64 most,.func (.func 166) #[] #[]] w fun e w'=>e=.returned (.bool (mayL most p x.xs))∧Below w.heap.size w w':=by
 obtain⟨a,cap,xs⟩:=x
 have hml:xs.length≤maxLen:=hx.1
 unfold maxLen at hml
 simp only[Sl.val]
 unfold mayL
 by_cases hlen:(xs.length:Int)≤most
 rotate_left
 ·rw[decide_eq_false hlen,Bool.false_and]
  have k0:most<(xs.length:Int):=by omega
  clear hlen hp
  go_enter func165,ntmps165
  go_wp2
  go_ret
  exact⟨rfl,Below.refl _ _⟩
 ·rw[decide_eq_true hlen,Bool.true_and]
  have k0:¬most<(xs.length:Int):=by omega
  clear hlen
  obtain⟨sb,hsb⟩:∃sb,Hid (xs.all p=sb):=⟨_,hide rfl⟩
  rw[hsb.out]
  go_enter func165,ntmps165
  go_wp2
  go_loopw [15] (fun iv wr'=>∃k:Nat,k≤xs.length∧iv=.int .i64 (k:Int)∧Hid (∀j (hj:j<xs.length),j<k→p xs[j]=true)∧Below w.heap.size w wr') (fun iv _=>xs.length - (intOf iv).toNat)
  case atStart=>exact⟨0,by omega,rfl,hide (fun j _ hj=>absurd hj (by omega)),Below.refl _ _⟩
  case round=>
   clear k0
   obtain⟨k,hk,rfl,HM,hB⟩:=hrel
   by_cases hlt:k<xs.length
   ·have k1:(k:Int)<xs.length:=by omega
    obtain⟨b,off,rfl,hb,hre⟩:=RowsAt.elem (hx.below hB) k hlt
    have hre:wr.rangeAt b (off+k*19) xs[k].cells:=hre
    have okx:RqE.ok xs[k]:=hx.2.1 _ (List.getElem_mem hlt)
    have hpk:=fun w0 h0=>hp xs[k] (List.getElem_mem hlt) w0 h0
    have HT:Hid (p xs[k]=true→∀j (hj:j<xs.length),j<k+1→p xs[j]=true):=hide (fun h j hj hjk=>by
     by_cases e:j=k
     ·subst e;exact h
     ·exact HM.out j hj (by omega))
    have HF:Hid (p xs[k]=false→sb=false):=hide (fun h=>by
     rw[←hsb.out]
     rw[List.all_eq_false]
     exact⟨xs[k],List.getElem_mem hlt,by rw[h];simp⟩)
    obtain⟨gx,hX⟩:∃g,Hid (xs[k]=g):=⟨_,hide rfl⟩
    rw[hX.out]at hre okx hpk HT HF
    clear hX HM
    have lu:gx.cells.length=19:=RqE.len _ okx
    have ou:gx.cells.toArray.all (·.oneCell')=true:=all_oneCell_toArray (RqE.one gx)
    generalize gx.cells=u at *
    generalize p gx=pb at *
    clear okx
    have iu:(prog.info? 81).map (·.size)=some u.length:=by rw[lu];kernel_rfl
    have iA:(prog.info? 81).map (·.size)=some u.toArray.size:=by rw[List.size_toArray,lu];kernel_rfl
    have zl:Rq.zero.cells.toArray.size=19:=rfl
    obtain⟨r5,hB5,hs5,_⟩:=zA wr Rq.zero.cells.toArray 81 u (by rw[lu];rfl)
    have hT5:(wr.alloc (.cells Rq.zero.cells.toArray 81)).there wr.heap.size 0 u.toArray.size:=by
     have:=zK wr Rq.zero.cells.toArray 81
     rw[zl]at this
     rw[show u.toArray.size=19 by simpa using lu]
     exact this
    go_upto_region 6 with(first|(refine wpList_load_mid rfl 81 _ rfl _ _ rfl u _ hre underlying81 rfl iu ?_)|(refine wpList_store_mid rfl 81 _ _ rfl _ _ u.toArray rfl rfl hT5 iA ou ?_))
    go_name_world w5 hw5
    rw[show(wr.alloc (.cells Rq.zero.cells.toArray 81)).setCells wr.heap.size 0 u=w5 from hw5]at r5 hB5 hs5
    have hB6:=hB.trans (hB5.mono hB.size)
    have c7:=hpk w5 hB6
    clear hw5 hs5 hT5 hre hpk hB5
    go_wp2_with (refine wpList_load_mid rfl 81 _ rfl _ _ rfl u _ r5 underlying81 rfl iu ?_)
    refine c7.mono ?_
    rintro e8 w8 ⟨rfl,hb8⟩
    have hB8:=hB6.trans (hb8.mono hB6.size)
    clear c7 hb8 r5 hB6
    cases pb
    ·have HF':=hide (HF.out rfl)
     clear HF HT hsb
     go_wp2
     go_ret
     exact⟨by rw[HF'.out];rfl,hB8⟩
    ·have HT':=hide (HT.out rfl)
     clear HF HT
     go_wp2
     go_roundw
     case rel=>exact⟨k+1,by omega,by go_num,HT',hB8⟩
     case measure=>simp[intOf];omega
   ·have k1:¬(k:Int)<xs.length:=by omega
    have HE:Hid (sb=true):=hide (by
     rw[←hsb.out]
     rw[List.all_eq_true]
     intro y hy
     obtain⟨j,hj,rfl⟩:=List.mem_iff_getElem.1 hy
     exact HM.out j hj (by omega))
    clear HM hsb
    go_wp2
    go_ret
    exact⟨by rw[HE.out];rfl,hB⟩
theorem zkO (x:Sl Hd) (most:Int) (p:Hd→Bool) (w:World) (hx:x.At HdE w) (hp:∀y∈x.xs,∀w0,Below w.heap.size w w0→Calls prog 168 #[.agg y.cells.toArray] w0 fun e w'=>e=.returned (.bool (p y))∧Below w0.heap.size w0 w'):
  Calls prog 167 #[x.val,.int .i64 most,.func (.func 168) #[] #[]] w fun e w'=>e=.returned (.bool (mayL most p x.xs))∧Below w.heap.size w w':=by
 obtain⟨a,cap,xs⟩:=x
 have hml:xs.length≤maxLen:=hx.1
 unfold maxLen at hml
 simp only[Sl.val]
 unfold mayL
 by_cases hlen:(xs.length:Int)≤most
 rotate_left
 ·rw[decide_eq_false hlen,Bool.false_and]
  have k0:most<(xs.length:Int):=by omega
  clear hlen hp
  go_enter func167,ntmps167
  go_wp2
  go_ret
  exact⟨rfl,Below.refl _ _⟩
 ·rw[decide_eq_true hlen,Bool.true_and]
  have k0:¬most<(xs.length:Int):=by omega
  clear hlen
  obtain⟨sb,hsb⟩:∃sb,Hid (xs.all p=sb):=⟨_,hide rfl⟩
  rw[hsb.out]
  go_enter func167,ntmps167
  go_wp2
  go_loopw [15] (fun iv wr'=>∃k:Nat,k≤xs.length∧iv=.int .i64 (k:Int)∧Hid (∀j (hj:j<xs.length),j<k→p xs[j]=true)∧Below w.heap.size w wr') (fun iv _=>xs.length - (intOf iv).toNat)
  case atStart=>exact⟨0,by omega,rfl,hide (fun j _ hj=>absurd hj (by omega)),Below.refl _ _⟩
  case round=>
   clear k0
   obtain⟨k,hk,rfl,HM,hB⟩:=hrel
   by_cases hlt:k<xs.length
   ·have k1:(k:Int)<xs.length:=by omega
    obtain⟨b,off,rfl,hb,hre⟩:=RowsAt.elem (hx.below hB) k hlt
    have hre:wr.rangeAt b (off+k*39) xs[k].cells:=hre
    have okx:HdE.ok xs[k]:=hx.2.1 _ (List.getElem_mem hlt)
    have hpk:=fun w0 h0=>hp xs[k] (List.getElem_mem hlt) w0 h0
    have HT:Hid (p xs[k]=true→∀j (hj:j<xs.length),j<k+1→p xs[j]=true):=hide (fun h j hj hjk=>by
     by_cases e:j=k
     ·subst e;exact h
     ·exact HM.out j hj (by omega))
    have HF:Hid (p xs[k]=false→sb=false):=hide (fun h=>by
     rw[←hsb.out]
     rw[List.all_eq_false]
     exact⟨xs[k],List.getElem_mem hlt,by rw[h];simp⟩)
    obtain⟨gx,hX⟩:∃g,Hid (xs[k]=g):=⟨_,hide rfl⟩
    rw[hX.out]at hre okx hpk HT HF
    clear hX HM
    have lu:gx.cells.length=39:=HdE.len _ okx
    have ou:gx.cells.toArray.all (·.oneCell')=true:=all_oneCell_toArray (HdE.one gx)
    generalize gx.cells=u at *
    generalize p gx=pb at *
    clear okx
    have iu:(prog.info? 113).map (·.size)=some u.length:=by rw[lu];kernel_rfl
    have iA:(prog.info? 113).map (·.size)=some u.toArray.size:=by rw[List.size_toArray,lu];kernel_rfl
    have zl:Hd.zero.cells.toArray.size=39:=rfl
    obtain⟨r5,hB5,hs5,_⟩:=zA wr Hd.zero.cells.toArray 113 u (by rw[lu];rfl)
    have hT5:(wr.alloc (.cells Hd.zero.cells.toArray 113)).there wr.heap.size 0 u.toArray.size:=by
     have:=zK wr Hd.zero.cells.toArray 113
     rw[zl]at this
     rw[show u.toArray.size=39 by simpa using lu]
     exact this
    go_upto_region 6 with(first|(refine wpList_load_mid rfl 113 _ rfl _ _ rfl u _ hre underlying113 rfl iu ?_)|(refine wpList_store_mid rfl 113 _ _ rfl _ _ u.toArray rfl rfl hT5 iA ou ?_))
    go_name_world w5 hw5
    rw[show(wr.alloc (.cells Hd.zero.cells.toArray 113)).setCells wr.heap.size 0 u=w5 from hw5]at r5 hB5 hs5
    have hB6:=hB.trans (hB5.mono hB.size)
    have c7:=hpk w5 hB6
    clear hw5 hs5 hT5 hre hpk hB5
    go_wp2_with (refine wpList_load_mid rfl 113 _ rfl _ _ rfl u _ r5 underlying113 rfl iu ?_)
    refine c7.mono ?_
    rintro e8 w8 ⟨rfl,hb8⟩
    have hB8:=hB6.trans (hb8.mono hB6.size)
    clear c7 hb8 r5 hB6
    cases pb
    ·have HF':=hide (HF.out rfl)
     clear HF HT hsb
     go_wp2
     go_ret
     exact⟨by rw[HF'.out];rfl,hB8⟩
    ·have HT':=hide (HT.out rfl)
     clear HF HT
     go_wp2
     go_roundw
     case rel=>exact⟨k+1,by omega,by go_num,HT',hB8⟩
     case measure=>simp[intOf];omega
   ·have k1:¬(k:Int)<xs.length:=by omega
    have HE:Hid (sb=true):=hide (by
     rw[←hsb.out]
     rw[List.all_eq_true]
     intro y hy
     obtain⟨j,hj,rfl⟩:=List.mem_iff_getElem.1 hy
     exact HM.out j hj (by omega))
    clear HM hsb
    go_wp2
    go_ret
    exact⟨by rw[HE.out];rfl,hB⟩
def Sg.may (g:Sg):Bool:=inB g.n 64
def Ev.may (g:Ev):Bool:=inB g.n 64&&decide ((g.s.size:Int)≤4194304)
def Rq.may (g:Rq):Bool:=inB g.c 8&&(inB g.n 1099511627776&&decide ((g.s.size:Int)≤64))
theorem zdB {α:Type} (E:El α) (y:α) (t:TypeId) (w:World):(w.alloc (.cells (E.f y).toArray t)).rangeAt w.heap.size 0 (E.f y)∧Below w.heap.size w (w.alloc (.cells (E.f y).toArray t)):=
 ⟨by simpa using zy w (E.f y).toArray t,(Below.refl _ _).alloc (Nat.le_refl _) _⟩
theorem zhF (g:Sg) (w:World):Calls prog 170 #[.agg g.cells.toArray] w fun e w'=>e=.returned (.bool g.may)∧Below w.heap.size w w':=by
 obtain⟨hA,hB⟩:=zdB SgE g 133 w
 have c0:=hA 0 _ rfl
 simp only[Nat.add_zero]at c0
 change World.cell? (w.alloc (.cells g.cells.toArray 133)) _=_ at c0
 change Below _ _ (w.alloc (.cells g.cells.toArray 133))at hB
 unfold Sg.may
 generalize g.cells=q at *
 generalize g.n=n at *
 clear hA
 go_enter func170,ntmps170
 go_wp2_with (go_at_call 135;refine(zak _ _ _).mono ?_;rintro e1 w1 ⟨rfl,hx⟩;obtain rfl:=hx.symm;clear hx)
 go_ret
 exact⟨rfl,hB⟩
theorem zj4 (g:Ev) (w:World):Calls prog 141 #[.agg g.cells.toArray] w fun e w'=>e=.returned (.bool g.may)∧Below w.heap.size w w':=by
 obtain⟨hA,hB⟩:=zdB EvE g 25 w
 have c0:=hA 0 _ rfl
 have c1:=hA 1 _ rfl
 simp only[Nat.add_zero,Nat.zero_add]at c0 c1
 change World.cell? (w.alloc (.cells g.cells.toArray 25)) _=_ at c0 c1
 change Below _ _ (w.alloc (.cells g.cells.toArray 25))at hB
 unfold Ev.may
 generalize g.cells=q at *
 generalize g.n=n at *
 generalize g.s=s at *
 clear hA
 cases hn:inB n 64
 ·rw[Bool.false_and]
  go_enter func141,ntmps141
  go_wp2_with (go_at_call 135;refine(zak _ _ _).mono ?_;rintro e1 w1 ⟨rfl,hx⟩;obtain rfl:=hx.symm;clear hx;rw[hn])
  go_ret
  exact⟨rfl,hB⟩
 ·rw[Bool.true_and]
  go_enter func141,ntmps141
  go_wp2_with (go_at_call 135;refine(zak _ _ _).mono ?_;rintro e1 w1 ⟨rfl,hx⟩;obtain rfl:=hx.symm;clear hx;rw[hn])
  go_ret
  exact⟨rfl,hB⟩
theorem zhS (g:Rq) (w:World):Calls prog 166 #[.agg g.cells.toArray] w fun e w'=>e=.returned (.bool g.may)∧Below w.heap.size w w':=by
 obtain⟨hA,hB⟩:=zdB RqE g 81 w
 have c0:=hA 0 _ rfl
 have c1:=hA 1 _ rfl
 have c2:=hA 2 _ rfl
 simp only[Nat.add_zero,Nat.zero_add]at c0 c1 c2
 change World.cell? (w.alloc (.cells g.cells.toArray 81)) _=_ at c0 c1 c2
 change Below _ _ (w.alloc (.cells g.cells.toArray 81))at hB
 unfold Rq.may
 generalize g.cells=q at *
 generalize g.c=c at *
 generalize g.n=n at *
 generalize g.s=s at *
 clear hA
 cases hc:inB c 8
 ·rw[Bool.false_and]
  go_enter func166,ntmps166
  go_wp2_with (go_at_call 135;refine(zak _ _ _).mono ?_;rintro e1 w1 ⟨rfl,hx⟩;obtain rfl:=hx.symm;clear hx;rw[hc])
  go_ret
  exact⟨rfl,hB⟩
 ·rw[Bool.true_and]
  cases hn:inB n 1099511627776
  ·rw[Bool.false_and]
   go_enter func166,ntmps166
   go_wp2_with (go_at_call 135;refine(zak _ _ _).mono ?_;rintro e1 w1 ⟨rfl,hx⟩;obtain rfl:=hx.symm;clear hx;(first|rw[hc]|rw[hn]))
   go_ret
   exact⟨rfl,hB⟩
  ·rw[Bool.true_and]
   go_enter func166,ntmps166
   go_wp2_with (go_at_call 135;refine(zak _ _ _).mono ?_;rintro e1 w1 ⟨rfl,hx⟩;obtain rfl:=hx.symm;clear hx;(first|rw[hc]|rw[hn]))
   go_ret
   exact⟨rfl,hB⟩
def sgsMay (x:Sl Sg):Bool:=mayL 64 Sg.may x.xs
def batMay (q:Bool) (x:Sl Rq):Bool:=if q then decide (x.xs.length=0)else mayL 4 Rq.may x.xs
theorem zeu (x:Sl Sg) (w:World) (hx:x.At SgE w):Calls prog 142 #[x.val] w fun e w'=>e=.returned (.bool (sgsMay x))∧Below w.heap.size w w':=by
 have ca:=zkM x 64 Sg.may w hx (fun y _ w0 _=>zhF y w0)
 unfold sgsMay
 generalize mayL 64 Sg.may x.xs=b at *
 obtain⟨a,cap,xs⟩:=x
 simp only[Sl.val]at ca ⊢
 clear hx
 go_enter func142,ntmps142
 go_wp2_with fail
 refine ca.mono ?_
 rintro e1 w1 ⟨rfl,hb⟩
 clear ca
 go_wp2
 go_ret
 exact⟨rfl,hb⟩
theorem zgn (q:Bool) (x:Sl Rq) (w:World) (hx:x.At RqE w):Calls prog 138 #[.agg #[.bool q,x.val]] w fun e w'=>e=.returned (.bool (batMay q x))∧Below w.heap.size w w':=by
 have hB:Below w.heap.size w (w.alloc (.cells #[.bool q,x.val] 39)):=(Below.refl _ w).alloc (Nat.le_refl _) _
 have ca:=zkN x 4 Rq.may _ (hx.below hB) (fun y _ w0 _=>zhS y w0)
 have hml:x.xs.length≤maxLen:=hx.1
 unfold maxLen at hml
 unfold batMay
 generalize mayL 4 Rq.may x.xs=b at *
 obtain⟨a,cap,xs⟩:=x
 simp only[Sl.val]at ca hB hml ⊢
 clear hx
 cases q
 ·rw[if_neg (by simp)]
  go_enter func138,ntmps138
  go_wp2_with fail
  refine ca.mono ?_
  rintro e1 w1 ⟨rfl,hb⟩
  have hB1:=hB.trans (hb.mono hB.size)
  clear ca hb
  go_wp2
  go_ret
  exact⟨rfl,hB1⟩
 ·rw[if_pos rfl]
  clear ca
  by_cases h0:xs.length=0
  ·rw[decide_eq_true h0]
   have e0:((xs.length:Int)==0)=true:=by rw[h0];rfl
   clear h0
   go_enter func138,ntmps138
   go_wp2
   go_ret
   exact⟨by simp_all,hB⟩
  ·rw[decide_eq_false h0]
   have e0:((xs.length:Int)==0)=false:=beq_eq_false_iff_ne.2 (by omega)
   clear h0
   go_enter func138,ntmps138
   go_wp2
   go_ret
   exact⟨by simp_all,hB⟩
def certMay (x:Vt) (s:Sl Sg):Bool:=x.may&&sgsMay s
def Hd.may (h:Hd):Bool:=batMay h.q h.rs&&certMay h.vt h.sg
def chgMay (a b c:Int) (x:Sl Hd):Bool:=(inB a 1048576&&(inB b 64&&inB c 1099511627776))&&mayL 4 Hd.may x.xs
theorem zf0 (x:Vt) (s:Sl Sg) (w:World) (hx:x.ok) (hs:s.At SgE w):Calls prog 137 #[.agg (certL x s).toArray] w fun e w'=>e=.returned (.bool (certMay x s))∧Below w.heap.size w w':=by
 have hA:(w.alloc (.cells (certL x s).toArray 50)).rangeAt w.heap.size 0 (certL x s):=by simpa using zy w (certL x s).toArray 50
 have hB:Below w.heap.size w (w.alloc (.cells (certL x s).toArray 50)):=(Below.refl _ _).alloc (Nat.le_refl _) _
 have hz:w.heap.size<(w.alloc (.cells (certL x s).toArray 50)).heap.size:=by simp
 have r1:=zP hA
 have c1:=zZ hA 0 _ rfl
 rw[hx.len]at c1
 simp only[Nat.zero_add,Nat.add_zero]at c1
 have ix:(prog.info? 43).map (·.size)=some x.cells.length:=by rw[hx.len];exact iszV
 have cv:=fun w0=>zcQ x w0
 have cs:=fun(w0:World) (h0:s.At SgE w0)=>zeu s w0 h0
 have s1:=hs.below hB
 unfold certMay
 obtain⟨W,hW⟩:∃W,Hid (w.alloc (.cells (certL x s).toArray 50)=W):=⟨_,hide rfl⟩
 rw[hW.out]at r1 c1 hB hz s1
 generalize certL x s=q at *
 generalize x.cells=u at *
 generalize x.may=b1 at *
 generalize sgsMay s=b2 at *
 have S2:=fun(w0:World) (h0:Below W.heap.size W w0)=>cs w0 (s1.below h0)
 obtain⟨a,cap,xs⟩:=s
 simp only[Sl.val]at c1 S2
 clear hA hx hs cs s1
 cases b1
 ·go_enter func137,ntmps137
  go_upto_region 1 with fail
  go_name_world w1 hw1
  obtain rfl:W=w1:=hW.out.symm.trans hw1
  clear hw1 hW S2
  go_wp2_with (refine wpList_load_mid rfl 43 _ rfl _ _ rfl u _ r1 underlying43 rfl ix ?_)
  refine(cv _).mono ?_
  rintro e2 w2 ⟨rfl,hb2⟩
  have hB2:=hB.trans (hb2.mono (by omega))
  clear cv r1 c1 hb2
  go_wp2
  go_ret
  exact⟨rfl,hB2⟩
 ·rw[Bool.true_and]
  go_enter func137,ntmps137
  go_upto_region 1 with fail
  go_name_world w1 hw1
  obtain rfl:W=w1:=hW.out.symm.trans hw1
  clear hw1 hW
  go_wp2_with (refine wpList_load_mid rfl 43 _ rfl _ _ rfl u _ r1 underlying43 rfl ix ?_)
  refine(cv _).mono ?_
  rintro e2 w2 ⟨rfl,hb2⟩
  have hB2:=hB.trans (hb2.mono (by omega))
  have c2:=(hb2.cell (p:=⟨w.heap.size,36,none⟩) hz).trans c1
  have C2:=S2 w2 hb2
  clear cv r1 c1 hb2 S2
  go_wp2_with fail
  refine C2.mono ?_
  rintro e3 w3 ⟨rfl,hb3⟩
  have hB3:=hB2.trans (hb3.mono hB2.size)
  clear C2 hb3
  go_wp2
  go_ret
  exact⟨rfl,hB3⟩
theorem zjC (h:Hd) (w:World) (kh:h.vt.ok) (ah:h.At w):Calls prog 168 #[.agg h.cells.toArray] w fun e w'=>e=.returned (.bool h.may)∧Below w.heap.size w w':=by
 have hA:(w.alloc (.cells h.cells.toArray 113)).rangeAt w.heap.size 0 h.cells:=by simpa using zy w h.cells.toArray 113
 have hB:Below w.heap.size w (w.alloc (.cells h.cells.toArray 113)):=(Below.refl _ _).alloc (Nat.le_refl _) _
 have hz:w.heap.size<(w.alloc (.cells h.cells.toArray 113)).heap.size:=by simp
 have c0:=hA 0 _ rfl
 have c1:=hA 1 _ rfl
 simp only[Nat.zero_add,Nat.add_zero]at c0 c1
 have rc:World.rangeAt _ w.heap.size 2 (certL h.vt h.sg):=zZ (cs:=[.bool h.q,h.rs.val]) hA
 have ic:(prog.info? 50).map (·.size)=some (certL h.vt h.sg).length:=by rw[show(certL h.vt h.sg).length=37 by simp[certL,kh.len]];exact iszC
 have h1:=ah.below hB
 have cb:=fun(w0:World) k1=>zgn h.q h.rs w0 k1
 have cc:=fun(w0:World) k1=>zf0 h.vt h.sg w0 kh k1
 unfold Hd.may
 obtain⟨W,hW⟩:∃W,Hid (w.alloc (.cells h.cells.toArray 113)=W):=⟨_,hide rfl⟩
 rw[hW.out]at c0 c1 rc hB hz h1
 generalize h.cells=q at *
 generalize certL h.vt h.sg=u at *
 generalize batMay h.q h.rs=b1 at *
 generalize certMay h.vt h.sg=b2 at *
 have B1:=cb W h1.1
 have C2:=fun(w0:World) (h0:Below W.heap.size W w0)=>cc w0 (h1.2.below h0)
 obtain⟨_,⟨a,cap,rs⟩,_,sg⟩:=h
 simp only[Sl.val]at c1 B1
 clear hA kh ah cb cc h1
 cases b1
 ·go_enter func168,ntmps168
  go_upto_region 1 with fail
  go_name_world w1 hw1
  obtain rfl:W=w1:=hW.out.symm.trans hw1
  clear hw1 hW C2
  go_wp2_with fail
  refine B1.mono ?_
  rintro e2 w2 ⟨rfl,hb2⟩
  have hB2:=hB.trans (hb2.mono (by omega))
  clear B1 c0 c1 rc hb2
  go_wp2
  go_ret
  exact⟨rfl,hB2⟩
 ·rw[Bool.true_and]
  go_enter func168,ntmps168
  go_upto_region 1 with fail
  go_name_world w1 hw1
  obtain rfl:W=w1:=hW.out.symm.trans hw1
  clear hw1 hW
  go_wp2_with fail
  refine B1.mono ?_
  rintro e2 w2 ⟨rfl,hb2⟩
  have hB2:=hB.trans (hb2.mono (by omega))
  have rc2:=zd rc hb2 hz
  have D2:=C2 w2 hb2
  clear B1 c0 c1 rc hb2 C2
  go_wp2_with (refine zS (by rfl) 50 _ rfl _ _ rfl u _ rc2 underlying50 rfl ic ?_)
  refine D2.mono ?_
  rintro e3 w3 ⟨rfl,hb3⟩
  have hB3:=hB2.trans (hb3.mono hB2.size)
  clear D2 rc2 hb3
  go_wp2
  go_ret
  exact⟨rfl,hB3⟩
theorem zkt (a b c:Int) (x:Sl Hd) (w:World) (hx:HdsAt w x):Calls prog 139 #[.agg (chgL a b c x)] w fun e w'=>e=.returned (.bool (chgMay a b c x))∧Below w.heap.size w w':=by
 have hB:Below w.heap.size w (w.alloc (.cells (chgL a b c x) 46)):=(Below.refl _ w).alloc (Nat.le_refl _) _
 have ca:=zkO x 4 Hd.may _ (hx.1.below hB) (fun y hy w0 h0=>zjC y w0 (hx.1.2.1 y hy) ((hx.2 y hy).below (hB.trans (h0.mono hB.size))))
 unfold chgMay
 unfold chgL at hB ca ⊢
 generalize mayL 4 Hd.may x.xs=sb at *
 obtain⟨xa,xc,xs⟩:=x
 simp only[Sl.val]at hB ca ⊢
 clear hx
 cases h1:inB a 1048576
 ·rw[Bool.false_and,Bool.false_and]
  clear ca
  go_enter func139,ntmps139
  go_wp2_with (go_at_call 135;refine(zak _ _ _).mono ?_;rintro e1 w1 ⟨rfl,hx⟩;obtain rfl:=hx.symm;clear hx;rw[h1])
  go_ret
  exact⟨rfl,hB⟩
 ·rw[Bool.true_and]
  cases h2:inB b 64
  ·rw[Bool.false_and,Bool.false_and]
   clear ca
   go_enter func139,ntmps139
   go_wp2_with (go_at_call 135;refine(zak _ _ _).mono ?_;rintro e1 w1 ⟨rfl,hx⟩;obtain rfl:=hx.symm;clear hx;(first|rw[h1]|rw[h2]))
   go_ret
   exact⟨rfl,hB⟩
  ·rw[Bool.true_and]
   cases h3:inB c 1099511627776
   ·rw[Bool.false_and]
    clear ca
    go_enter func139,ntmps139
    go_wp2_with (go_at_call 135;refine(zak _ _ _).mono ?_;rintro e1 w1 ⟨rfl,hx⟩;obtain rfl:=hx.symm;clear hx;(first|rw[h1]|rw[h2]|rw[h3]))
    go_ret
    exact⟨rfl,hB⟩
   ·rw[Bool.true_and]
    go_enter func139,ntmps139
    go_wp2_with (go_at_call 135;refine(zak _ _ _).mono ?_;rintro e1 w1 ⟨rfl,hx⟩;obtain rfl:=hx.symm;clear hx;(first|rw[h1]|rw[h2]|rw[h3]))
    refine ca.mono ?_
    rintro e2 w2 ⟨rfl,hb2⟩
    have hB2:=hB.trans (hb2.mono hB.size)
    clear ca hb2
    go_wp2
    go_ret
    exact⟨rfl,hB2⟩
def Mg.mayL (m:Mg):Bool:=batMay m.q m.rs&&(chgMay m.ce m.cl m.cv m.he&&(Go.Proofs.YtcbpbkefggekmaaGreatDoor.mayL 64 Ev.may m.ne.xs&&(decide ((m.st.size:Int)≤4194304)&&sgsMay m.sg)))
def Mg.may (m:Mg):Bool:=(inB m.e 1048576&&inB m.l 64)&&((inB m.v 1099511627776&&inB m.s 1099511627776)&&((if m.k=2 then m.vt.may else true)&&((if m.k=7 then certMay m.ct m.cs else true)&&m.mayL)))
theorem zjT (m:Mg) (w:World) (om:m.ok) (am:m.At w):Calls prog 86 #[.agg m.ms.cells.toArray] w fun er w'=>er=.returned (.bool m.may)∧Below w.heap.size w w':=by
 have hA:(w.alloc (.cells m.ms.cells.toArray 52)).rangeAt w.heap.size 0 m.ms.cells:=by simpa using zy w m.ms.cells.toArray 52
 have hB:Below w.heap.size w (w.alloc (.cells m.ms.cells.toArray 52)):=(Below.refl _ _).alloc (Nat.le_refl _) _
 have hs:w.heap.size<(w.alloc (.cells m.ms.cells.toArray 52)).heap.size:=by simp
 have a1:=am.below hB
 obtain⟨W,hW⟩:∃W,Hid (w.alloc (.cells m.ms.cells.toArray 52)=W):=⟨_,hide rfl⟩
 rw[hW.out]at hA hB hs a1
 have M:=om.ms.at hA
 have ix:(prog.info? 43).map (·.size)=some m.vt.cells.length:=by rw[om.vt.len];exact iszV
 have ic:(prog.info? 50).map (·.size)=some (certL m.ct m.cs).length:=by rw[show(certL m.ct m.cs).length=37 by simp[certL,om.ct.len]];exact iszC
 have cK:W.cell? ⟨w.heap.size,0,none⟩=some (.int .i64 m.k):=M.k
 have cE:W.cell? ⟨w.heap.size,1,none⟩=some (.int .i64 m.e):=M.e
 have cL:W.cell? ⟨w.heap.size,2,none⟩=some (.int .i64 m.l):=M.l
 have cV:W.cell? ⟨w.heap.size,3,none⟩=some (.int .i64 m.v):=M.v
 have cS:W.cell? ⟨w.heap.size,4,none⟩=some (.int .i64 m.s):=M.s
 have cQ:W.cell? ⟨w.heap.size,5,none⟩=some (.bool m.q):=M.q
 have cR:W.cell? ⟨w.heap.size,6,none⟩=some (.slice m.rs.a m.rs.xs.length m.rs.cap):=M.rs
 have c1:W.cell? ⟨w.heap.size,43,none⟩=some (.int .i64 m.ce):=M.ce
 have c2:W.cell? ⟨w.heap.size,44,none⟩=some (.int .i64 m.cl):=M.cl
 have c3:W.cell? ⟨w.heap.size,45,none⟩=some (.int .i64 m.cv):=M.cv
 have cH:W.cell? ⟨w.heap.size,46,none⟩=some (.slice m.he.a m.he.xs.length m.he.cap):=M.he
 have cN:W.cell? ⟨w.heap.size,47,none⟩=some (.slice m.ne.a m.ne.xs.length m.ne.cap):=M.ne
 have cT:W.cell? ⟨w.heap.size,117,none⟩=some (.string m.st):=M.st
 have cG:W.cell? ⟨w.heap.size,118,none⟩=some (.slice m.sg.a m.sg.xs.length m.sg.cap):=M.sg
 have rV:W.rangeAt (w.heap.size) 7 m.vt.cells:=M.vt
 have rC:W.rangeAt (w.heap.size) 80 (certL m.ct m.cs):=M.ct
 have gE:=fun w0=>zak m.e 1048576 w0
 have gL:=fun w0=>zak m.l 64 w0
 have gV:=fun w0=>zak m.v 1099511627776 w0
 have gS:=fun w0=>zak m.s 1099511627776 w0
 have gX:=fun w0=>zcQ m.vt w0
 have gT:=fun(w0:World) (h0:Below W.heap.size W w0)=>zf0 m.ct m.cs w0 om.ct (a1.cs.below h0)
 have gB:=fun(w0:World) (h0:Below W.heap.size W w0)=>zgn m.q m.rs w0 (a1.rs.below h0)
 have gC:=fun(w0:World) (h0:Below W.heap.size W w0)=>zkt m.ce m.cl m.cv m.he w0 (a1.he.below h0)
 have gN:=fun(w0:World) (h0:Below W.heap.size W w0)=>zkP m.ne 64 Ev.may w0 (a1.ne.below h0) (fun y _ w1 _=>zj4 y w1)
 have gG:=fun(w0:World) (h0:Below W.heap.size W w0)=>zeu m.sg w0 (a1.sg.below h0)
 unfold chgL at gC
 simp only[Sl.val]at gB gC gN gG
 unfold Mg.may Mg.mayL
 clear hA M om am a1
 generalize inB m.e 1048576=be at *
 generalize inB m.l 64=bl at *
 generalize inB m.v 1099511627776=bv at *
 generalize inB m.s 1099511627776=bs at *
 generalize m.vt.may=bx at *
 generalize certMay m.ct m.cs=bt at *
 generalize batMay m.q m.rs=b1 at *
 generalize chgMay m.ce m.cl m.cv m.he=b2 at *
 generalize Go.Proofs.YtcbpbkefggekmaaGreatDoor.mayL 64 Ev.may m.ne.xs=b3 at *
 generalize sgsMay m.sg=b5 at *
 generalize m.ms.cells=q at *
 generalize m.vt.cells=u at *
 generalize certL m.ct m.cs=uc at *
 obtain⟨k,e,l,v,s,qq,⟨ra,rc,rx⟩,vt,ce,cl,cv,⟨ha,hc,hx⟩,⟨na,nc,nx⟩,d,ct,cs,st,⟨ga,gc,gx⟩⟩:=m
 simp only at *
 by_cases hst:(st.size:Int)≤4194304
 rotate_left
 ·rw[decide_eq_false hst]
  have hst':(4194304:Int)<st.size:=by omega
  have hst2:decide ((st.size:Int)≤4194304)=false:=decide_eq_false hst
  by_cases h2:k=2
  ·rw[if_pos h2,if_neg (by omega)]
   subst h2
   go_enter func86,ntmps86
   go_upto_region 1 with fail
   go_name_world w1 hw1
   obtain rfl:W=w1:=hW.out.symm.trans hw1
   clear hw1 hW
   have HB:=hB
   have HW:Below W.heap.size W W:=Below.refl _ _
   go_wp2_with fail
   refine(gE _).mono ?_
   rintro e1 w1 ⟨rfl,hx0⟩
   obtain rfl:=hx0.symm
   clear hx0
   clear gE
   cases be
   ·go_wp2
    go_ret
    exact⟨by simp,HB⟩
   ·go_wp2_with fail
    refine(gL _).mono ?_
    rintro e1 w1 ⟨rfl,hx0⟩
    obtain rfl:=hx0.symm
    clear hx0
    clear gL
    cases bl
    ·go_wp2
     go_ret
     exact⟨by simp,HB⟩
    ·go_wp2_with fail
     refine(gV _).mono ?_
     rintro e1 w1 ⟨rfl,hx0⟩
     obtain rfl:=hx0.symm
     clear hx0
     clear gV
     cases bv
     ·go_wp2
      go_ret
      exact⟨by simp,HB⟩
     ·go_wp2_with fail
      refine(gS _).mono ?_
      rintro e1 w1 ⟨rfl,hx0⟩
      obtain rfl:=hx0.symm
      clear hx0
      clear gS
      cases bs
      ·go_wp2
       go_ret
       exact⟨by simp,HB⟩
      ·go_wp2_with (refine zS (by rfl) 43 _ rfl _ _ rfl u _ rV underlying43 rfl ix ?_)
       refine(gX _).mono ?_
       rintro e5 w5 ⟨rfl,hb5⟩
       have up:=fun i v (h:W.cell? ⟨w.heap.size,i,none⟩=some v)=>(hb5.cell (p:=⟨w.heap.size,i,none⟩) hs).trans h
       replace cK:=up _ _ cK
       replace cQ:=up _ _ cQ
       replace cR:=up _ _ cR
       replace c1:=up _ _ c1
       replace c2:=up _ _ c2
       replace c3:=up _ _ c3
       replace cH:=up _ _ cH
       replace cN:=up _ _ cN
       replace cT:=up _ _ cT
       replace cG:=up _ _ cG
       clear up
       replace HB:=HB.trans (hb5.mono (by omega))
       replace HW:=HW.trans (hb5.mono HW.size)
       replace hs:=Nat.lt_of_lt_of_le hs hb5.size
       clear hb5 gX
       cases bx
       ·go_wp2
        go_ret
        exact⟨by simp,HB⟩
       ·go_wp2_with fail
        refine(gB _ HW).mono ?_
        rintro e6 w6 ⟨rfl,hb6⟩
        have up:=fun i v (h:w5.cell? ⟨w.heap.size,i,none⟩=some v)=>(hb6.cell (p:=⟨w.heap.size,i,none⟩) hs).trans h
        replace c1:=up _ _ c1
        replace c2:=up _ _ c2
        replace c3:=up _ _ c3
        replace cH:=up _ _ cH
        replace cN:=up _ _ cN
        replace cT:=up _ _ cT
        replace cG:=up _ _ cG
        clear up
        replace HB:=HB.trans (hb6.mono (by omega))
        replace HW:=HW.trans (hb6.mono HW.size)
        replace hs:=Nat.lt_of_lt_of_le hs hb6.size
        clear hb6 gB
        cases b1
        ·go_wp2
         go_ret
         exact⟨by simp,HB⟩
        ·go_wp2_with fail
         refine(gC _ HW).mono ?_
         rintro e7 w7 ⟨rfl,hb7⟩
         have up:=fun i v (h:w6.cell? ⟨w.heap.size,i,none⟩=some v)=>(hb7.cell (p:=⟨w.heap.size,i,none⟩) hs).trans h
         replace cN:=up _ _ cN
         replace cT:=up _ _ cT
         replace cG:=up _ _ cG
         clear up
         replace HB:=HB.trans (hb7.mono (by omega))
         replace HW:=HW.trans (hb7.mono HW.size)
         replace hs:=Nat.lt_of_lt_of_le hs hb7.size
         clear hb7 gC
         cases b2
         ·go_wp2
          go_ret
          exact⟨by simp,HB⟩
         ·go_wp2_with fail
          refine(gN _ HW).mono ?_
          rintro e8 w8 ⟨rfl,hb8⟩
          have up:=fun i v (h:w7.cell? ⟨w.heap.size,i,none⟩=some v)=>(hb8.cell (p:=⟨w.heap.size,i,none⟩) hs).trans h
          replace cT:=up _ _ cT
          replace cG:=up _ _ cG
          clear up
          replace HB:=HB.trans (hb8.mono (by omega))
          replace HW:=HW.trans (hb8.mono HW.size)
          replace hs:=Nat.lt_of_lt_of_le hs hb8.size
          clear hb8 gN
          cases b3
          ·go_wp2
           go_ret
           exact⟨by simp,HB⟩
          ·clear gG
           go_wp2
           go_ret
           exact⟨by simp,HB⟩
  ·by_cases h7:k=7
   ·rw[if_neg h2,if_pos h7]
    subst h7
    clear h2
    go_enter func86,ntmps86
    go_upto_region 1 with fail
    go_name_world w1 hw1
    obtain rfl:W=w1:=hW.out.symm.trans hw1
    clear hw1 hW
    have HB:=hB
    have HW:Below W.heap.size W W:=Below.refl _ _
    go_wp2_with fail
    refine(gE _).mono ?_
    rintro e1 w1 ⟨rfl,hx0⟩
    obtain rfl:=hx0.symm
    clear hx0
    clear gE
    cases be
    ·go_wp2
     go_ret
     exact⟨by simp,HB⟩
    ·go_wp2_with fail
     refine(gL _).mono ?_
     rintro e1 w1 ⟨rfl,hx0⟩
     obtain rfl:=hx0.symm
     clear hx0
     clear gL
     cases bl
     ·go_wp2
      go_ret
      exact⟨by simp,HB⟩
     ·go_wp2_with fail
      refine(gV _).mono ?_
      rintro e1 w1 ⟨rfl,hx0⟩
      obtain rfl:=hx0.symm
      clear hx0
      clear gV
      cases bv
      ·go_wp2
       go_ret
       exact⟨by simp,HB⟩
      ·go_wp2_with fail
       refine(gS _).mono ?_
       rintro e1 w1 ⟨rfl,hx0⟩
       obtain rfl:=hx0.symm
       clear hx0
       clear gS
       cases bs
       ·go_wp2
        go_ret
        exact⟨by simp,HB⟩
       ·go_wp2_with (refine zS (by rfl) 50 _ rfl _ _ rfl uc _ rC underlying50 rfl ic ?_)
        refine(gT _ HW).mono ?_
        rintro e5 w5 ⟨rfl,hb5⟩
        have up:=fun i v (h:W.cell? ⟨w.heap.size,i,none⟩=some v)=>(hb5.cell (p:=⟨w.heap.size,i,none⟩) hs).trans h
        replace cQ:=up _ _ cQ
        replace cR:=up _ _ cR
        replace c1:=up _ _ c1
        replace c2:=up _ _ c2
        replace c3:=up _ _ c3
        replace cH:=up _ _ cH
        replace cN:=up _ _ cN
        replace cT:=up _ _ cT
        replace cG:=up _ _ cG
        clear up
        replace HB:=HB.trans (hb5.mono (by omega))
        replace HW:=HW.trans (hb5.mono HW.size)
        replace hs:=Nat.lt_of_lt_of_le hs hb5.size
        clear hb5 gT
        cases bt
        ·go_wp2
         go_ret
         exact⟨by simp,HB⟩
        ·go_wp2_with fail
         refine(gB _ HW).mono ?_
         rintro e6 w6 ⟨rfl,hb6⟩
         have up:=fun i v (h:w5.cell? ⟨w.heap.size,i,none⟩=some v)=>(hb6.cell (p:=⟨w.heap.size,i,none⟩) hs).trans h
         replace c1:=up _ _ c1
         replace c2:=up _ _ c2
         replace c3:=up _ _ c3
         replace cH:=up _ _ cH
         replace cN:=up _ _ cN
         replace cT:=up _ _ cT
         replace cG:=up _ _ cG
         clear up
         replace HB:=HB.trans (hb6.mono (by omega))
         replace HW:=HW.trans (hb6.mono HW.size)
         replace hs:=Nat.lt_of_lt_of_le hs hb6.size
         clear hb6 gB
         cases b1
         ·go_wp2
          go_ret
          exact⟨by simp,HB⟩
         ·go_wp2_with fail
          refine(gC _ HW).mono ?_
          rintro e7 w7 ⟨rfl,hb7⟩
          have up:=fun i v (h:w6.cell? ⟨w.heap.size,i,none⟩=some v)=>(hb7.cell (p:=⟨w.heap.size,i,none⟩) hs).trans h
          replace cN:=up _ _ cN
          replace cT:=up _ _ cT
          replace cG:=up _ _ cG
          clear up
          replace HB:=HB.trans (hb7.mono (by omega))
          replace HW:=HW.trans (hb7.mono HW.size)
          replace hs:=Nat.lt_of_lt_of_le hs hb7.size
          clear hb7 gC
          cases b2
          ·go_wp2
           go_ret
           exact⟨by simp,HB⟩
          ·go_wp2_with fail
           refine(gN _ HW).mono ?_
           rintro e8 w8 ⟨rfl,hb8⟩
           have up:=fun i v (h:w7.cell? ⟨w.heap.size,i,none⟩=some v)=>(hb8.cell (p:=⟨w.heap.size,i,none⟩) hs).trans h
           replace cT:=up _ _ cT
           replace cG:=up _ _ cG
           clear up
           replace HB:=HB.trans (hb8.mono (by omega))
           replace HW:=HW.trans (hb8.mono HW.size)
           replace hs:=Nat.lt_of_lt_of_le hs hb8.size
           clear hb8 gN
           cases b3
           ·go_wp2
            go_ret
            exact⟨by simp,HB⟩
           ·clear gG
            go_wp2
            go_ret
            exact⟨by simp,HB⟩
   ·rw[if_neg h2,if_neg h7]
    have n2:(k==2)=false:=beq_eq_false_iff_ne.2 h2
    have n7:(k==7)=false:=beq_eq_false_iff_ne.2 h7
    clear h2 h7
    go_enter func86,ntmps86
    go_upto_region 1 with fail
    go_name_world w1 hw1
    obtain rfl:W=w1:=hW.out.symm.trans hw1
    clear hw1 hW
    have HB:=hB
    have HW:Below W.heap.size W W:=Below.refl _ _
    go_wp2_with fail
    refine(gE _).mono ?_
    rintro e1 w1 ⟨rfl,hx0⟩
    obtain rfl:=hx0.symm
    clear hx0
    clear gE
    cases be
    ·go_wp2
     go_ret
     exact⟨by simp,HB⟩
    ·go_wp2_with fail
     refine(gL _).mono ?_
     rintro e1 w1 ⟨rfl,hx0⟩
     obtain rfl:=hx0.symm
     clear hx0
     clear gL
     cases bl
     ·go_wp2
      go_ret
      exact⟨by simp,HB⟩
     ·go_wp2_with fail
      refine(gV _).mono ?_
      rintro e1 w1 ⟨rfl,hx0⟩
      obtain rfl:=hx0.symm
      clear hx0
      clear gV
      cases bv
      ·go_wp2
       go_ret
       exact⟨by simp,HB⟩
      ·go_wp2_with fail
       refine(gS _).mono ?_
       rintro e1 w1 ⟨rfl,hx0⟩
       obtain rfl:=hx0.symm
       clear hx0
       clear gS
       cases bs
       ·go_wp2
        go_ret
        exact⟨by simp,HB⟩
       ·go_wp2_with fail
        refine(gB _ HW).mono ?_
        rintro e6 w6 ⟨rfl,hb6⟩
        have up:=fun i v (h:W.cell? ⟨w.heap.size,i,none⟩=some v)=>(hb6.cell (p:=⟨w.heap.size,i,none⟩) hs).trans h
        replace c1:=up _ _ c1
        replace c2:=up _ _ c2
        replace c3:=up _ _ c3
        replace cH:=up _ _ cH
        replace cN:=up _ _ cN
        replace cT:=up _ _ cT
        replace cG:=up _ _ cG
        clear up
        replace HB:=HB.trans (hb6.mono (by omega))
        replace HW:=HW.trans (hb6.mono HW.size)
        replace hs:=Nat.lt_of_lt_of_le hs hb6.size
        clear hb6 gB
        cases b1
        ·go_wp2
         go_ret
         exact⟨by simp,HB⟩
        ·go_wp2_with fail
         refine(gC _ HW).mono ?_
         rintro e7 w7 ⟨rfl,hb7⟩
         have up:=fun i v (h:w6.cell? ⟨w.heap.size,i,none⟩=some v)=>(hb7.cell (p:=⟨w.heap.size,i,none⟩) hs).trans h
         replace cN:=up _ _ cN
         replace cT:=up _ _ cT
         replace cG:=up _ _ cG
         clear up
         replace HB:=HB.trans (hb7.mono (by omega))
         replace HW:=HW.trans (hb7.mono HW.size)
         replace hs:=Nat.lt_of_lt_of_le hs hb7.size
         clear hb7 gC
         cases b2
         ·go_wp2
          go_ret
          exact⟨by simp,HB⟩
         ·go_wp2_with fail
          refine(gN _ HW).mono ?_
          rintro e8 w8 ⟨rfl,hb8⟩
          have up:=fun i v (h:w7.cell? ⟨w.heap.size,i,none⟩=some v)=>(hb8.cell (p:=⟨w.heap.size,i,none⟩) hs).trans h
          replace cT:=up _ _ cT
          replace cG:=up _ _ cG
          clear up
          replace HB:=HB.trans (hb8.mono (by omega))
          replace HW:=HW.trans (hb8.mono HW.size)
          replace hs:=Nat.lt_of_lt_of_le hs hb8.size
          clear hb8 gN
          cases b3
          ·go_wp2
           go_ret
           exact⟨by simp,HB⟩
          ·clear gG
           go_wp2
           go_ret
           exact⟨by simp,HB⟩
 ·rw[decide_eq_true hst]
  by_cases h2:k=2
  ·rw[if_pos h2,if_neg (by omega)]
   subst h2
   go_enter func86,ntmps86
   go_upto_region 1 with fail
   go_name_world w1 hw1
   obtain rfl:W=w1:=hW.out.symm.trans hw1
   clear hw1 hW
   have HB:=hB
   have HW:Below W.heap.size W W:=Below.refl _ _
   go_wp2_with fail
   refine(gE _).mono ?_
   rintro e1 w1 ⟨rfl,hx0⟩
   obtain rfl:=hx0.symm
   clear hx0
   clear gE
   cases be
   ·go_wp2
    go_ret
    exact⟨by simp,HB⟩
   ·go_wp2_with fail
    refine(gL _).mono ?_
    rintro e1 w1 ⟨rfl,hx0⟩
    obtain rfl:=hx0.symm
    clear hx0
    clear gL
    cases bl
    ·go_wp2
     go_ret
     exact⟨by simp,HB⟩
    ·go_wp2_with fail
     refine(gV _).mono ?_
     rintro e1 w1 ⟨rfl,hx0⟩
     obtain rfl:=hx0.symm
     clear hx0
     clear gV
     cases bv
     ·go_wp2
      go_ret
      exact⟨by simp,HB⟩
     ·go_wp2_with fail
      refine(gS _).mono ?_
      rintro e1 w1 ⟨rfl,hx0⟩
      obtain rfl:=hx0.symm
      clear hx0
      clear gS
      cases bs
      ·go_wp2
       go_ret
       exact⟨by simp,HB⟩
      ·go_wp2_with (refine zS (by rfl) 43 _ rfl _ _ rfl u _ rV underlying43 rfl ix ?_)
       refine(gX _).mono ?_
       rintro e5 w5 ⟨rfl,hb5⟩
       have up:=fun i v (h:W.cell? ⟨w.heap.size,i,none⟩=some v)=>(hb5.cell (p:=⟨w.heap.size,i,none⟩) hs).trans h
       replace cK:=up _ _ cK
       replace cQ:=up _ _ cQ
       replace cR:=up _ _ cR
       replace c1:=up _ _ c1
       replace c2:=up _ _ c2
       replace c3:=up _ _ c3
       replace cH:=up _ _ cH
       replace cN:=up _ _ cN
       replace cT:=up _ _ cT
       replace cG:=up _ _ cG
       clear up
       replace HB:=HB.trans (hb5.mono (by omega))
       replace HW:=HW.trans (hb5.mono HW.size)
       replace hs:=Nat.lt_of_lt_of_le hs hb5.size
       clear hb5 gX
       cases bx
       ·go_wp2
        go_ret
        exact⟨by simp,HB⟩
       ·go_wp2_with fail
        refine(gB _ HW).mono ?_
        rintro e6 w6 ⟨rfl,hb6⟩
        have up:=fun i v (h:w5.cell? ⟨w.heap.size,i,none⟩=some v)=>(hb6.cell (p:=⟨w.heap.size,i,none⟩) hs).trans h
        replace c1:=up _ _ c1
        replace c2:=up _ _ c2
        replace c3:=up _ _ c3
        replace cH:=up _ _ cH
        replace cN:=up _ _ cN
        replace cT:=up _ _ cT
        replace cG:=up _ _ cG
        clear up
        replace HB:=HB.trans (hb6.mono (by omega))
        replace HW:=HW.trans (hb6.mono HW.size)
        replace hs:=Nat.lt_of_lt_of_le hs hb6.size
        clear hb6 gB
        cases b1
        ·go_wp2
         go_ret
         exact⟨by simp,HB⟩
        ·go_wp2_with fail
         refine(gC _ HW).mono ?_
         rintro e7 w7 ⟨rfl,hb7⟩
         have up:=fun i v (h:w6.cell? ⟨w.heap.size,i,none⟩=some v)=>(hb7.cell (p:=⟨w.heap.size,i,none⟩) hs).trans h
         replace cN:=up _ _ cN
         replace cT:=up _ _ cT
         replace cG:=up _ _ cG
         clear up
         replace HB:=HB.trans (hb7.mono (by omega))
         replace HW:=HW.trans (hb7.mono HW.size)
         replace hs:=Nat.lt_of_lt_of_le hs hb7.size
         clear hb7 gC
         cases b2
         ·go_wp2
          go_ret
          exact⟨by simp,HB⟩
         ·go_wp2_with fail
          refine(gN _ HW).mono ?_
          rintro e8 w8 ⟨rfl,hb8⟩
          have up:=fun i v (h:w7.cell? ⟨w.heap.size,i,none⟩=some v)=>(hb8.cell (p:=⟨w.heap.size,i,none⟩) hs).trans h
          replace cT:=up _ _ cT
          replace cG:=up _ _ cG
          clear up
          replace HB:=HB.trans (hb8.mono (by omega))
          replace HW:=HW.trans (hb8.mono HW.size)
          replace hs:=Nat.lt_of_lt_of_le hs hb8.size
          clear hb8 gN
          cases b3
          ·go_wp2
           go_ret
           exact⟨by simp,HB⟩
          ·go_wp2_with fail
           refine(gG _ HW).mono ?_
           rintro e9 w9 ⟨rfl,hb9⟩
           replace HB:=HB.trans (hb9.mono (by omega))
           clear hb9 gG
           cases b5
           all_goals
            go_wp2
            go_ret
            exact⟨by first|rfl|simp,HB⟩
  ·by_cases h7:k=7
   ·rw[if_neg h2,if_pos h7]
    subst h7
    clear h2
    go_enter func86,ntmps86
    go_upto_region 1 with fail
    go_name_world w1 hw1
    obtain rfl:W=w1:=hW.out.symm.trans hw1
    clear hw1 hW
    have HB:=hB
    have HW:Below W.heap.size W W:=Below.refl _ _
    go_wp2_with fail
    refine(gE _).mono ?_
    rintro e1 w1 ⟨rfl,hx0⟩
    obtain rfl:=hx0.symm
    clear hx0
    clear gE
    cases be
    ·go_wp2
     go_ret
     exact⟨by simp,HB⟩
    ·go_wp2_with fail
     refine(gL _).mono ?_
     rintro e1 w1 ⟨rfl,hx0⟩
     obtain rfl:=hx0.symm
     clear hx0
     clear gL
     cases bl
     ·go_wp2
      go_ret
      exact⟨by simp,HB⟩
     ·go_wp2_with fail
      refine(gV _).mono ?_
      rintro e1 w1 ⟨rfl,hx0⟩
      obtain rfl:=hx0.symm
      clear hx0
      clear gV
      cases bv
      ·go_wp2
       go_ret
       exact⟨by simp,HB⟩
      ·go_wp2_with fail
       refine(gS _).mono ?_
       rintro e1 w1 ⟨rfl,hx0⟩
       obtain rfl:=hx0.symm
       clear hx0
       clear gS
       cases bs
       ·go_wp2
        go_ret
        exact⟨by simp,HB⟩
       ·go_wp2_with (refine zS (by rfl) 50 _ rfl _ _ rfl uc _ rC underlying50 rfl ic ?_)
        refine(gT _ HW).mono ?_
        rintro e5 w5 ⟨rfl,hb5⟩
        have up:=fun i v (h:W.cell? ⟨w.heap.size,i,none⟩=some v)=>(hb5.cell (p:=⟨w.heap.size,i,none⟩) hs).trans h
        replace cQ:=up _ _ cQ
        replace cR:=up _ _ cR
        replace c1:=up _ _ c1
        replace c2:=up _ _ c2
        replace c3:=up _ _ c3
        replace cH:=up _ _ cH
        replace cN:=up _ _ cN
        replace cT:=up _ _ cT
        replace cG:=up _ _ cG
        clear up
        replace HB:=HB.trans (hb5.mono (by omega))
        replace HW:=HW.trans (hb5.mono HW.size)
        replace hs:=Nat.lt_of_lt_of_le hs hb5.size
        clear hb5 gT
        cases bt
        ·go_wp2
         go_ret
         exact⟨by simp,HB⟩
        ·go_wp2_with fail
         refine(gB _ HW).mono ?_
         rintro e6 w6 ⟨rfl,hb6⟩
         have up:=fun i v (h:w5.cell? ⟨w.heap.size,i,none⟩=some v)=>(hb6.cell (p:=⟨w.heap.size,i,none⟩) hs).trans h
         replace c1:=up _ _ c1
         replace c2:=up _ _ c2
         replace c3:=up _ _ c3
         replace cH:=up _ _ cH
         replace cN:=up _ _ cN
         replace cT:=up _ _ cT
         replace cG:=up _ _ cG
         clear up
         replace HB:=HB.trans (hb6.mono (by omega))
         replace HW:=HW.trans (hb6.mono HW.size)
         replace hs:=Nat.lt_of_lt_of_le hs hb6.size
         clear hb6 gB
         cases b1
         ·go_wp2
          go_ret
          exact⟨by simp,HB⟩
         ·go_wp2_with fail
          refine(gC _ HW).mono ?_
          rintro e7 w7 ⟨rfl,hb7⟩
          have up:=fun i v (h:w6.cell? ⟨w.heap.size,i,none⟩=some v)=>(hb7.cell (p:=⟨w.heap.size,i,none⟩) hs).trans h
          replace cN:=up _ _ cN
          replace cT:=up _ _ cT
          replace cG:=up _ _ cG
          clear up
          replace HB:=HB.trans (hb7.mono (by omega))
          replace HW:=HW.trans (hb7.mono HW.size)
          replace hs:=Nat.lt_of_lt_of_le hs hb7.size
          clear hb7 gC
          cases b2
          ·go_wp2
           go_ret
           exact⟨by simp,HB⟩
          ·go_wp2_with fail
           refine(gN _ HW).mono ?_
           rintro e8 w8 ⟨rfl,hb8⟩
           have up:=fun i v (h:w7.cell? ⟨w.heap.size,i,none⟩=some v)=>(hb8.cell (p:=⟨w.heap.size,i,none⟩) hs).trans h
           replace cT:=up _ _ cT
           replace cG:=up _ _ cG
           clear up
           replace HB:=HB.trans (hb8.mono (by omega))
           replace HW:=HW.trans (hb8.mono HW.size)
           replace hs:=Nat.lt_of_lt_of_le hs hb8.size
           clear hb8 gN
           cases b3
           ·go_wp2
            go_ret
            exact⟨by simp,HB⟩
           ·go_wp2_with fail
            refine(gG _ HW).mono ?_
            rintro e9 w9 ⟨rfl,hb9⟩
            replace HB:=HB.trans (hb9.mono (by omega))
            clear hb9 gG
            cases b5
            all_goals
             go_wp2
             go_ret
             exact⟨by first|rfl|simp,HB⟩
   ·rw[if_neg h2,if_neg h7]
    have n2:(k==2)=false:=beq_eq_false_iff_ne.2 h2
    have n7:(k==7)=false:=beq_eq_false_iff_ne.2 h7
    clear h2 h7
    go_enter func86,ntmps86
    go_upto_region 1 with fail
    go_name_world w1 hw1
    obtain rfl:W=w1:=hW.out.symm.trans hw1
    clear hw1 hW
    have HB:=hB
    have HW:Below W.heap.size W W:=Below.refl _ _
    go_wp2_with fail
    refine(gE _).mono ?_
    rintro e1 w1 ⟨rfl,hx0⟩
    obtain rfl:=hx0.symm
    clear hx0
    clear gE
    cases be
    ·go_wp2
     go_ret
     exact⟨by simp,HB⟩
    ·go_wp2_with fail
     refine(gL _).mono ?_
     rintro e1 w1 ⟨rfl,hx0⟩
     obtain rfl:=hx0.symm
     clear hx0
     clear gL
     cases bl
     ·go_wp2
      go_ret
      exact⟨by simp,HB⟩
     ·go_wp2_with fail
      refine(gV _).mono ?_
      rintro e1 w1 ⟨rfl,hx0⟩
      obtain rfl:=hx0.symm
      clear hx0
      clear gV
      cases bv
      ·go_wp2
       go_ret
       exact⟨by simp,HB⟩
      ·go_wp2_with fail
       refine(gS _).mono ?_
       rintro e1 w1 ⟨rfl,hx0⟩
       obtain rfl:=hx0.symm
       clear hx0
       clear gS
       cases bs
       ·go_wp2
        go_ret
        exact⟨by simp,HB⟩
       ·go_wp2_with fail
        refine(gB _ HW).mono ?_
        rintro e6 w6 ⟨rfl,hb6⟩
        have up:=fun i v (h:W.cell? ⟨w.heap.size,i,none⟩=some v)=>(hb6.cell (p:=⟨w.heap.size,i,none⟩) hs).trans h
        replace c1:=up _ _ c1
        replace c2:=up _ _ c2
        replace c3:=up _ _ c3
        replace cH:=up _ _ cH
        replace cN:=up _ _ cN
        replace cT:=up _ _ cT
        replace cG:=up _ _ cG
        clear up
        replace HB:=HB.trans (hb6.mono (by omega))
        replace HW:=HW.trans (hb6.mono HW.size)
        replace hs:=Nat.lt_of_lt_of_le hs hb6.size
        clear hb6 gB
        cases b1
        ·go_wp2
         go_ret
         exact⟨by simp,HB⟩
        ·go_wp2_with fail
         refine(gC _ HW).mono ?_
         rintro e7 w7 ⟨rfl,hb7⟩
         have up:=fun i v (h:w6.cell? ⟨w.heap.size,i,none⟩=some v)=>(hb7.cell (p:=⟨w.heap.size,i,none⟩) hs).trans h
         replace cN:=up _ _ cN
         replace cT:=up _ _ cT
         replace cG:=up _ _ cG
         clear up
         replace HB:=HB.trans (hb7.mono (by omega))
         replace HW:=HW.trans (hb7.mono HW.size)
         replace hs:=Nat.lt_of_lt_of_le hs hb7.size
         clear hb7 gC
         cases b2
         ·go_wp2
          go_ret
          exact⟨by simp,HB⟩
         ·go_wp2_with fail
          refine(gN _ HW).mono ?_
          rintro e8 w8 ⟨rfl,hb8⟩
          have up:=fun i v (h:w7.cell? ⟨w.heap.size,i,none⟩=some v)=>(hb8.cell (p:=⟨w.heap.size,i,none⟩) hs).trans h
          replace cT:=up _ _ cT
          replace cG:=up _ _ cG
          clear up
          replace HB:=HB.trans (hb8.mono (by omega))
          replace HW:=HW.trans (hb8.mono HW.size)
          replace hs:=Nat.lt_of_lt_of_le hs hb8.size
          clear hb8 gN
          cases b3
          ·go_wp2
           go_ret
           exact⟨by simp,HB⟩
          ·go_wp2_with fail
           refine(gG _ HW).mono ?_
           rintro e9 w9 ⟨rfl,hb9⟩
           replace HB:=HB.trans (hb9.mono (by omega))
           clear hb9 gG
           cases b5
           all_goals
            go_wp2
            go_ret
            exact⟨by first|rfl|simp,HB⟩
def Mg.plain (k:Int):Mg:=⟨k,0,0,0,0,false,⟨none,0,[]⟩,Vt.zero,0,0,0,⟨none,0,[]⟩,⟨none,0,[]⟩,zeros32,Vt.zero,⟨none,0,[]⟩,⟨#[]⟩,⟨none,0,[]⟩⟩
theorem Mg.plain_ok (k:Int):(Mg.plain k).ok:=⟨Vt.zero_ok,Vt.zero_ok,zv,zD⟩
theorem zV {w:World}:HdsAt w ⟨none,0,[]⟩:=⟨RowsAt.none,fun _ h=>by cases h⟩
def Mg.bare (m:Mg):Mg:=
 if m.k=1 then {Mg.plain 1 with q:=m.q,rs:=m.rs,e:=m.e,s:=m.s}
 else if m.k=2 then {Mg.plain 2 with vt:=m.vt}
 else if m.k=3 then {Mg.plain 3 with ce:=m.ce,cl:=m.cl,cv:=m.cv,he:=m.he}
 else if m.k=4 then {Mg.plain 4 with e:=m.e,l:=m.l,v:=m.v,ne:=m.ne}
 else if m.k=5 then {Mg.plain 5 with e:=m.e,d:=m.d}
 else if m.k=6 then {Mg.plain 6 with e:=m.e,s:=m.s}
 else if m.k=7 then {Mg.plain 7 with q:=m.q,rs:=m.rs,ct:=m.ct,cs:=m.cs}
 else if m.k=8 then {Mg.plain 8 with st:=m.st,sg:=m.sg}
 else Mg.plain m.k
theorem Mg.bare_1 {m:Mg} (h:m.k=1):m.bare={Mg.plain 1 with q:=m.q,rs:=m.rs,e:=m.e,s:=m.s}:=by unfold Mg.bare;rw[h];rfl
theorem Mg.bare_2 {m:Mg} (h:m.k=2):m.bare={Mg.plain 2 with vt:=m.vt}:=by unfold Mg.bare;rw[h];rfl
theorem Mg.bare_3 {m:Mg} (h:m.k=3):m.bare={Mg.plain 3 with ce:=m.ce,cl:=m.cl,cv:=m.cv,he:=m.he}:=by unfold Mg.bare;rw[h];rfl
theorem Mg.bare_4 {m:Mg} (h:m.k=4):m.bare={Mg.plain 4 with e:=m.e,l:=m.l,v:=m.v,ne:=m.ne}:=by unfold Mg.bare;rw[h];rfl
theorem Mg.bare_5 {m:Mg} (h:m.k=5):m.bare={Mg.plain 5 with e:=m.e,d:=m.d}:=by unfold Mg.bare;rw[h];rfl
theorem Mg.bare_6 {m:Mg} (h:m.k=6):m.bare={Mg.plain 6 with e:=m.e,s:=m.s}:=by unfold Mg.bare;rw[h];rfl
theorem Mg.bare_7 {m:Mg} (h:m.k=7):m.bare={Mg.plain 7 with q:=m.q,rs:=m.rs,ct:=m.ct,cs:=m.cs}:=by unfold Mg.bare;rw[h];rfl
theorem Mg.bare_8 {m:Mg} (h:m.k=8):m.bare={Mg.plain 8 with st:=m.st,sg:=m.sg}:=by unfold Mg.bare;rw[h];rfl
theorem Mg.bare_ok {m:Mg} (h:m.ok) (h1:1≤m.k) (h8:m.k≤8):m.bare.ok:=by
 have hk:m.k=1∨m.k=2∨m.k=3∨m.k=4∨m.k=5∨m.k=6∨m.k=7∨m.k=8:=by omega
 have p:=fun k=>Mg.plain_ok k
 rcases hk with hk|hk|hk|hk|hk|hk|hk|hk
 ·rw[Mg.bare_1 hk];exact⟨by first|exact h.vt|exact(p 0).vt,by first|exact h.ct|exact(p 0).ct,by first|exact h.dl|exact(p 0).dl,by first|exact h.db|exact(p 0).db⟩
 ·rw[Mg.bare_2 hk];exact⟨by first|exact h.vt|exact(p 0).vt,by first|exact h.ct|exact(p 0).ct,by first|exact h.dl|exact(p 0).dl,by first|exact h.db|exact(p 0).db⟩
 ·rw[Mg.bare_3 hk];exact⟨by first|exact h.vt|exact(p 0).vt,by first|exact h.ct|exact(p 0).ct,by first|exact h.dl|exact(p 0).dl,by first|exact h.db|exact(p 0).db⟩
 ·rw[Mg.bare_4 hk];exact⟨by first|exact h.vt|exact(p 0).vt,by first|exact h.ct|exact(p 0).ct,by first|exact h.dl|exact(p 0).dl,by first|exact h.db|exact(p 0).db⟩
 ·rw[Mg.bare_5 hk];exact⟨by first|exact h.vt|exact(p 0).vt,by first|exact h.ct|exact(p 0).ct,by first|exact h.dl|exact(p 0).dl,by first|exact h.db|exact(p 0).db⟩
 ·rw[Mg.bare_6 hk];exact⟨by first|exact h.vt|exact(p 0).vt,by first|exact h.ct|exact(p 0).ct,by first|exact h.dl|exact(p 0).dl,by first|exact h.db|exact(p 0).db⟩
 ·rw[Mg.bare_7 hk];exact⟨by first|exact h.vt|exact(p 0).vt,by first|exact h.ct|exact(p 0).ct,by first|exact h.dl|exact(p 0).dl,by first|exact h.db|exact(p 0).db⟩
 ·rw[Mg.bare_8 hk];exact⟨by first|exact h.vt|exact(p 0).vt,by first|exact h.ct|exact(p 0).ct,by first|exact h.dl|exact(p 0).dl,by first|exact h.db|exact(p 0).db⟩
theorem Mg.bare_at {m:Mg} {w:World} (h:m.At w) (h1:1≤m.k) (h8:m.k≤8):m.bare.At w:=by
 have hk:m.k=1∨m.k=2∨m.k=3∨m.k=4∨m.k=5∨m.k=6∨m.k=7∨m.k=8:=by omega
 rcases hk with hk|hk|hk|hk|hk|hk|hk|hk
 ·rw[Mg.bare_1 hk];exact⟨by first|exact h.rs|exact RowsAt.none,by first|exact h.he|exact zV,by first|exact h.ne|exact RowsAt.none,by first|exact h.cs|exact RowsAt.none,by first|exact h.sg|exact RowsAt.none⟩
 ·rw[Mg.bare_2 hk];exact⟨by first|exact h.rs|exact RowsAt.none,by first|exact h.he|exact zV,by first|exact h.ne|exact RowsAt.none,by first|exact h.cs|exact RowsAt.none,by first|exact h.sg|exact RowsAt.none⟩
 ·rw[Mg.bare_3 hk];exact⟨by first|exact h.rs|exact RowsAt.none,by first|exact h.he|exact zV,by first|exact h.ne|exact RowsAt.none,by first|exact h.cs|exact RowsAt.none,by first|exact h.sg|exact RowsAt.none⟩
 ·rw[Mg.bare_4 hk];exact⟨by first|exact h.rs|exact RowsAt.none,by first|exact h.he|exact zV,by first|exact h.ne|exact RowsAt.none,by first|exact h.cs|exact RowsAt.none,by first|exact h.sg|exact RowsAt.none⟩
 ·rw[Mg.bare_5 hk];exact⟨by first|exact h.rs|exact RowsAt.none,by first|exact h.he|exact zV,by first|exact h.ne|exact RowsAt.none,by first|exact h.cs|exact RowsAt.none,by first|exact h.sg|exact RowsAt.none⟩
 ·rw[Mg.bare_6 hk];exact⟨by first|exact h.rs|exact RowsAt.none,by first|exact h.he|exact zV,by first|exact h.ne|exact RowsAt.none,by first|exact h.cs|exact RowsAt.none,by first|exact h.sg|exact RowsAt.none⟩
 ·rw[Mg.bare_7 hk];exact⟨by first|exact h.rs|exact RowsAt.none,by first|exact h.he|exact zV,by first|exact h.ne|exact RowsAt.none,by first|exact h.cs|exact RowsAt.none,by first|exact h.sg|exact RowsAt.none⟩
 ·rw[Mg.bare_8 hk];exact⟨by first|exact h.rs|exact RowsAt.none,by first|exact h.he|exact zV,by first|exact h.ne|exact RowsAt.none,by first|exact h.cs|exact RowsAt.none,by first|exact h.sg|exact RowsAt.none⟩
def Mg.good (m:Mg):Bool:=decide (1≤m.k∧m.k≤8)&&(Mg.B m m.bare&&m.may)
theorem goodW (q q':List Value) (k:Int) (b1 b2:Bool) (w:World) (hq:q.length=119) (h0:q[0]? =some (.int .i64 k))
  (kb:1≤k→k≤8→∀w0,Below w.heap.size w w0→Calls prog 85 #[.agg q.toArray] w0 (BareOk w0 q'))
  (ks:1≤k→k≤8→∀w0,Below w.heap.size w w0→Calls prog 84 #[.agg q.toArray,.agg q'.toArray] w0 fun e w'=>e=.returned (.bool b1)∧Below w0.heap.size w0 w')
  (kf:∀w0,Below w.heap.size w w0→Calls prog 86 #[.agg q.toArray] w0 fun e w'=>e=.returned (.bool b2)∧Below w0.heap.size w0 w'):
  Calls prog 57 #[.agg q.toArray] w fun e w'=>e=.returned (.bool (decide (1≤k∧k≤8)&&(b1&&b2)))∧Below w.heap.size w w':=by
 have hB:Below w.heap.size w (w.alloc (.cells q.toArray 52)):=(Below.refl _ _).alloc (Nat.le_refl _) _
 have hs:w.heap.size<(w.alloc (.cells q.toArray 52)).heap.size:=by simp
 have hA:(w.alloc (.cells q.toArray 52)).rangeAt w.heap.size 0 q:=by simpa using zy w q.toArray 52
 have c0:=hA 0 _ h0
 simp only[Nat.add_zero]at c0
 have iq:(prog.info? 52).map (·.size)=some q.length:=by rw[hq];exact iszM
 clear hq h0
 by_cases hk:1≤k∧k≤8
 ·rw[decide_eq_true hk,Bool.true_and]
  replace kb:=kb hk.1 hk.2
  replace ks:=ks hk.1 hk.2
  obtain⟨h1,h8⟩:=hk
  cases b1
  ·rw[Bool.false_and]
   go_enter func57,ntmps57
   go_upto_region 2 with fail
   obtain⟨w8,hw8⟩:∃w8,(w.alloc (.cells q.toArray 52)).drew=w8:=⟨_,rfl⟩
   have hB8:Below w.heap.size w w8:=by rw[←hw8];exact hB.drew
   have hA8:w8.rangeAt w.heap.size 0 q:=by rw[←hw8];exact(World.rangeAt_drew _ _ _ _).2 hA
   have hs8:w.heap.size<w8.heap.size:=by rw[←hw8];exact hs
   have gb:=fun w0 (h0:Below w8.heap.size w8 w0)=>kb w0 (hB8.trans (h0.mono hB8.size))
   have gs:=fun w0 (h0:Below w8.heap.size w8 w0)=>ks w0 (hB8.trans (h0.mono hB8.size))
   have gf:=fun w0 (h0:Below w8.heap.size w8 w0)=>kf w0 (hB8.trans (h0.mono hB8.size))
   refine zG (S:=(Below w8.heap.size w8)) 12 rfl (by kernel_rfl) ?_
   rw[hw8]
   clear hw8 hA hB hs c0 kb ks kf
   have hS:(Below w8.heap.size w8) w8:=Below.refl _ _
   refine hs_t 0 12 (?_) rfl (by kernel_rfl) (by kernel_rfl) (by kernel_rfl) (by rfl) ?_ hS rfl ?_
   rotate_left
   ·intro w' hw
    go_simp
    try with_reducible rfl
   simp only[nz]
   refine hs_t 1 13 (?_) rfl (by kernel_rfl) (by kernel_rfl) (by kernel_rfl) (by rfl) ?_ hS rfl ?_
   rotate_left
   ·intro w' hw
    go_simp
    try with_reducible rfl
   simp only[nz]
   refine hs_t 2 14 (.agg q.toArray) rfl (by kernel_rfl) (by kernel_rfl) (by kernel_rfl) (by rfl) (fun w' hw=>zX rfl rfl (run_loadVar_mid (P:=prog) w' w.heap.size 0 52 q _ (zd hA8 hw hs8) underlying52 rfl iq)) hS rfl ?_
   simp only[nz]
   refine hs_t 3 15 (.agg q.toArray) rfl (by kernel_rfl) (by kernel_rfl) (by kernel_rfl) (by rfl) (fun w' hw=>zX rfl rfl (run_loadVar_mid (P:=prog) w' w.heap.size 0 52 q _ (zd hA8 hw hs8) underlying52 rfl iq)) hS rfl ?_
   simp only[nz]
   refine zx (i:=4) (d:=some 16) rfl (by kernel_rfl) (by rfl) (by go_simp;first|done|exact⟨rfl,rfl⟩|with_reducible rfl) rfl ?_
   refine(gb _ hS).mono ?_
   rintro e' wn1 ⟨rfl,hb1⟩
   have hS:(Below w8.heap.size w8) wn1:=hS.trans (hb1.mono hS.size)
   refine⟨_,rfl,hS,?_⟩
   simp only[nz]
   refine zx (i:=5) (d:=some 17) rfl (by kernel_rfl) (by rfl) (by go_simp;first|done|exact⟨rfl,rfl⟩|with_reducible rfl) rfl ?_
   refine(gs _ hS).mono ?_
   rintro e' wn2 ⟨rfl,hb2⟩
   have hS:(Below w8.heap.size w8) wn2:=hS.trans (hb2.mono hS.size)
   refine⟨_,rfl,hS,?_⟩
   simp only[nz]
   refine hs_t 6 18 (?_) rfl (by kernel_rfl) (by kernel_rfl) (by kernel_rfl) (by rfl) ?_ hS rfl ?_
   rotate_left
   ·intro w' hw
    go_simp
    try with_reducible rfl
   simp only[nz]
   refine hs_t 7 19 (?_) rfl (by kernel_rfl) (by kernel_rfl) (by kernel_rfl) (by rfl) ?_ hS rfl ?_
   rotate_left
   ·intro w' hw
    go_simp
    try with_reducible rfl
   simp only[nz]
   refine zQ (i:=8) (d:=some 20) rfl (by kernel_rfl) (by kernel_rfl) (by kernel_rfl) (by rfl) hS rfl ?_
   simp only[nz]
   refine zQ (i:=9) (d:=some 21) rfl (by kernel_rfl) (by kernel_rfl) (by kernel_rfl) (by rfl) hS rfl ?_
   simp only[nz]
   refine hs_t 10 22 (?_) rfl (by kernel_rfl) (by kernel_rfl) (by kernel_rfl) (by rfl) ?_ hS rfl ?_
   rotate_left
   ·intro w' hw
    go_simp
    try with_reducible rfl
   simp only[nz]
   refine hs_t 11 2 (?_) rfl (by kernel_rfl) (by kernel_rfl) (by kernel_rfl) (by rfl) ?_ hS rfl ?_
   rotate_left
   ·intro w' hw
    go_simp
    try with_reducible rfl
   simp only[nz]
   refine zE (by kernel_rfl) ?_
   go_wp2
   go_ret
   exact⟨rfl,hB8.trans (hS.mono hB8.size)⟩
  ·rw[Bool.true_and]
   go_enter func57,ntmps57
   go_upto_region 2 with fail
   obtain⟨w8,hw8⟩:∃w8,(w.alloc (.cells q.toArray 52)).drew=w8:=⟨_,rfl⟩
   have hB8:Below w.heap.size w w8:=by rw[←hw8];exact hB.drew
   have hA8:w8.rangeAt w.heap.size 0 q:=by rw[←hw8];exact(World.rangeAt_drew _ _ _ _).2 hA
   have hs8:w.heap.size<w8.heap.size:=by rw[←hw8];exact hs
   have gb:=fun w0 (h0:Below w8.heap.size w8 w0)=>kb w0 (hB8.trans (h0.mono hB8.size))
   have gs:=fun w0 (h0:Below w8.heap.size w8 w0)=>ks w0 (hB8.trans (h0.mono hB8.size))
   have gf:=fun w0 (h0:Below w8.heap.size w8 w0)=>kf w0 (hB8.trans (h0.mono hB8.size))
   refine zG (S:=(Below w8.heap.size w8)) 12 rfl (by kernel_rfl) ?_
   rw[hw8]
   clear hw8 hA hB hs c0 kb ks kf
   have hS:(Below w8.heap.size w8) w8:=Below.refl _ _
   refine hs_t 0 12 (?_) rfl (by kernel_rfl) (by kernel_rfl) (by kernel_rfl) (by rfl) ?_ hS rfl ?_
   rotate_left
   ·intro w' hw
    go_simp
    try with_reducible rfl
   simp only[nz]
   refine hs_t 1 13 (?_) rfl (by kernel_rfl) (by kernel_rfl) (by kernel_rfl) (by rfl) ?_ hS rfl ?_
   rotate_left
   ·intro w' hw
    go_simp
    try with_reducible rfl
   simp only[nz]
   refine hs_t 2 14 (.agg q.toArray) rfl (by kernel_rfl) (by kernel_rfl) (by kernel_rfl) (by rfl) (fun w' hw=>zX rfl rfl (run_loadVar_mid (P:=prog) w' w.heap.size 0 52 q _ (zd hA8 hw hs8) underlying52 rfl iq)) hS rfl ?_
   simp only[nz]
   refine hs_t 3 15 (.agg q.toArray) rfl (by kernel_rfl) (by kernel_rfl) (by kernel_rfl) (by rfl) (fun w' hw=>zX rfl rfl (run_loadVar_mid (P:=prog) w' w.heap.size 0 52 q _ (zd hA8 hw hs8) underlying52 rfl iq)) hS rfl ?_
   simp only[nz]
   refine zx (i:=4) (d:=some 16) rfl (by kernel_rfl) (by rfl) (by go_simp;first|done|exact⟨rfl,rfl⟩|with_reducible rfl) rfl ?_
   refine(gb _ hS).mono ?_
   rintro e' wn1 ⟨rfl,hb1⟩
   have hS:(Below w8.heap.size w8) wn1:=hS.trans (hb1.mono hS.size)
   refine⟨_,rfl,hS,?_⟩
   simp only[nz]
   refine zx (i:=5) (d:=some 17) rfl (by kernel_rfl) (by rfl) (by go_simp;first|done|exact⟨rfl,rfl⟩|with_reducible rfl) rfl ?_
   refine(gs _ hS).mono ?_
   rintro e' wn2 ⟨rfl,hb2⟩
   have hS:(Below w8.heap.size w8) wn2:=hS.trans (hb2.mono hS.size)
   refine⟨_,rfl,hS,?_⟩
   simp only[nz]
   refine hs_t 6 18 (?_) rfl (by kernel_rfl) (by kernel_rfl) (by kernel_rfl) (by rfl) ?_ hS rfl ?_
   rotate_left
   ·intro w' hw
    go_simp
    try with_reducible rfl
   simp only[nz]
   refine hs_t 7 19 (?_) rfl (by kernel_rfl) (by kernel_rfl) (by kernel_rfl) (by rfl) ?_ hS rfl ?_
   rotate_left
   ·intro w' hw
    go_simp
    try with_reducible rfl
   simp only[nz]
   refine hs_t 8 20 (.agg q.toArray) rfl (by kernel_rfl) (by kernel_rfl) (by kernel_rfl) (by rfl) (fun w' hw=>zX rfl rfl (run_loadVar_mid (P:=prog) w' w.heap.size 0 52 q _ (zd hA8 hw hs8) underlying52 rfl iq)) hS rfl ?_
   simp only[nz]
   refine zx (i:=9) (d:=some 21) rfl (by kernel_rfl) (by rfl) (by go_simp;first|done|exact⟨rfl,rfl⟩|with_reducible rfl) rfl ?_
   refine(gf _ hS).mono ?_
   rintro e' wn3 ⟨rfl,hb3⟩
   have hS:(Below w8.heap.size w8) wn3:=hS.trans (hb3.mono hS.size)
   refine⟨_,rfl,hS,?_⟩
   simp only[nz]
   refine hs_t 10 22 (?_) rfl (by kernel_rfl) (by kernel_rfl) (by kernel_rfl) (by rfl) ?_ hS rfl ?_
   rotate_left
   ·intro w' hw
    go_simp
    try with_reducible rfl
   simp only[nz]
   refine hs_t 11 2 (?_) rfl (by kernel_rfl) (by kernel_rfl) (by kernel_rfl) (by rfl) ?_ hS rfl ?_
   rotate_left
   ·intro w' hw
    go_simp
    try with_reducible rfl
   simp only[nz]
   refine zE (by kernel_rfl) ?_
   go_wp2
   go_ret
   exact⟨rfl,hB8.trans (hS.mono hB8.size)⟩
 ·rw[decide_eq_false hk,Bool.false_and]
  have hk':k<1∨(1≤k∧8<k):=by omega
  clear hk kb ks kf
  have kb:∀w0,Below w.heap.size w w0→True:=fun _ _=>trivial
  have ks:=kb
  have kf:=kb
  rcases hk' with hk|⟨hk,hk2⟩
  ·have n1:¬1≤k:=by omega
   go_enter func57,ntmps57
   go_upto_region 2 with fail
   obtain⟨w8,hw8⟩:∃w8,(w.alloc (.cells q.toArray 52)).drew=w8:=⟨_,rfl⟩
   have hB8:Below w.heap.size w w8:=by rw[←hw8];exact hB.drew
   have hA8:w8.rangeAt w.heap.size 0 q:=by rw[←hw8];exact(World.rangeAt_drew _ _ _ _).2 hA
   have hs8:w.heap.size<w8.heap.size:=by rw[←hw8];exact hs
   have gb:=fun w0 (h0:Below w8.heap.size w8 w0)=>kb w0 (hB8.trans (h0.mono hB8.size))
   have gs:=fun w0 (h0:Below w8.heap.size w8 w0)=>ks w0 (hB8.trans (h0.mono hB8.size))
   have gf:=fun w0 (h0:Below w8.heap.size w8 w0)=>kf w0 (hB8.trans (h0.mono hB8.size))
   refine zG (S:=(Below w8.heap.size w8)) 12 rfl (by kernel_rfl) ?_
   rw[hw8]
   clear hw8 hA hB hs c0 kb ks kf
   have hS:(Below w8.heap.size w8) w8:=Below.refl _ _
   refine hs_t 0 12 (?_) rfl (by kernel_rfl) (by kernel_rfl) (by kernel_rfl) (by rfl) ?_ hS rfl ?_
   rotate_left
   ·intro w' hw
    go_simp
    try with_reducible rfl
   simp only[nz]
   refine hs_t 1 13 (?_) rfl (by kernel_rfl) (by kernel_rfl) (by kernel_rfl) (by rfl) ?_ hS rfl ?_
   rotate_left
   ·intro w' hw
    go_simp
    try with_reducible rfl
   simp only[nz]
   refine zQ (i:=2) (d:=some 14) rfl (by kernel_rfl) (by kernel_rfl) (by kernel_rfl) (by rfl) hS rfl ?_
   simp only[nz]
   refine zQ (i:=3) (d:=some 15) rfl (by kernel_rfl) (by kernel_rfl) (by kernel_rfl) (by rfl) hS rfl ?_
   simp only[nz]
   refine zQ (i:=4) (d:=some 16) rfl (by kernel_rfl) (by kernel_rfl) (by kernel_rfl) (by rfl) hS rfl ?_
   simp only[nz]
   refine zQ (i:=5) (d:=some 17) rfl (by kernel_rfl) (by kernel_rfl) (by kernel_rfl) (by rfl) hS rfl ?_
   simp only[nz]
   refine hs_t 6 18 (?_) rfl (by kernel_rfl) (by kernel_rfl) (by kernel_rfl) (by rfl) ?_ hS rfl ?_
   rotate_left
   ·intro w' hw
    go_simp
    try with_reducible rfl
   simp only[nz]
   refine hs_t 7 19 (?_) rfl (by kernel_rfl) (by kernel_rfl) (by kernel_rfl) (by rfl) ?_ hS rfl ?_
   rotate_left
   ·intro w' hw
    go_simp
    try with_reducible rfl
   simp only[nz]
   refine zQ (i:=8) (d:=some 20) rfl (by kernel_rfl) (by kernel_rfl) (by kernel_rfl) (by rfl) hS rfl ?_
   simp only[nz]
   refine zQ (i:=9) (d:=some 21) rfl (by kernel_rfl) (by kernel_rfl) (by kernel_rfl) (by rfl) hS rfl ?_
   simp only[nz]
   refine hs_t 10 22 (?_) rfl (by kernel_rfl) (by kernel_rfl) (by kernel_rfl) (by rfl) ?_ hS rfl ?_
   rotate_left
   ·intro w' hw
    go_simp
    try with_reducible rfl
   simp only[nz]
   refine hs_t 11 2 (?_) rfl (by kernel_rfl) (by kernel_rfl) (by kernel_rfl) (by rfl) ?_ hS rfl ?_
   rotate_left
   ·intro w' hw
    go_simp
    try with_reducible rfl
   simp only[nz]
   refine zE (by kernel_rfl) ?_
   go_wp2
   go_ret
   exact⟨rfl,hB8.trans (hS.mono hB8.size)⟩
  ·have n1:¬k≤8:=by omega
   go_enter func57,ntmps57
   go_upto_region 2 with fail
   obtain⟨w8,hw8⟩:∃w8,(w.alloc (.cells q.toArray 52)).drew=w8:=⟨_,rfl⟩
   have hB8:Below w.heap.size w w8:=by rw[←hw8];exact hB.drew
   have hA8:w8.rangeAt w.heap.size 0 q:=by rw[←hw8];exact(World.rangeAt_drew _ _ _ _).2 hA
   have hs8:w.heap.size<w8.heap.size:=by rw[←hw8];exact hs
   have gb:=fun w0 (h0:Below w8.heap.size w8 w0)=>kb w0 (hB8.trans (h0.mono hB8.size))
   have gs:=fun w0 (h0:Below w8.heap.size w8 w0)=>ks w0 (hB8.trans (h0.mono hB8.size))
   have gf:=fun w0 (h0:Below w8.heap.size w8 w0)=>kf w0 (hB8.trans (h0.mono hB8.size))
   refine zG (S:=(Below w8.heap.size w8)) 12 rfl (by kernel_rfl) ?_
   rw[hw8]
   clear hw8 hA hB hs c0 kb ks kf
   have hS:(Below w8.heap.size w8) w8:=Below.refl _ _
   refine hs_t 0 12 (?_) rfl (by kernel_rfl) (by kernel_rfl) (by kernel_rfl) (by rfl) ?_ hS rfl ?_
   rotate_left
   ·intro w' hw
    go_simp
    try with_reducible rfl
   simp only[nz]
   refine hs_t 1 13 (?_) rfl (by kernel_rfl) (by kernel_rfl) (by kernel_rfl) (by rfl) ?_ hS rfl ?_
   rotate_left
   ·intro w' hw
    go_simp
    try with_reducible rfl
   simp only[nz]
   refine zQ (i:=2) (d:=some 14) rfl (by kernel_rfl) (by kernel_rfl) (by kernel_rfl) (by rfl) hS rfl ?_
   simp only[nz]
   refine zQ (i:=3) (d:=some 15) rfl (by kernel_rfl) (by kernel_rfl) (by kernel_rfl) (by rfl) hS rfl ?_
   simp only[nz]
   refine zQ (i:=4) (d:=some 16) rfl (by kernel_rfl) (by kernel_rfl) (by kernel_rfl) (by rfl) hS rfl ?_
   simp only[nz]
   refine zQ (i:=5) (d:=some 17) rfl (by kernel_rfl) (by kernel_rfl) (by kernel_rfl) (by rfl) hS rfl ?_
   simp only[nz]
   refine hs_t 6 18 (?_) rfl (by kernel_rfl) (by kernel_rfl) (by kernel_rfl) (by rfl) ?_ hS rfl ?_
   rotate_left
   ·intro w' hw
    go_simp
    try with_reducible rfl
   simp only[nz]
   refine hs_t 7 19 (?_) rfl (by kernel_rfl) (by kernel_rfl) (by kernel_rfl) (by rfl) ?_ hS rfl ?_
   rotate_left
   ·intro w' hw
    go_simp
    try with_reducible rfl
   simp only[nz]
   refine zQ (i:=8) (d:=some 20) rfl (by kernel_rfl) (by kernel_rfl) (by kernel_rfl) (by rfl) hS rfl ?_
   simp only[nz]
   refine zQ (i:=9) (d:=some 21) rfl (by kernel_rfl) (by kernel_rfl) (by kernel_rfl) (by rfl) hS rfl ?_
   simp only[nz]
   refine hs_t 10 22 (?_) rfl (by kernel_rfl) (by kernel_rfl) (by kernel_rfl) (by rfl) ?_ hS rfl ?_
   rotate_left
   ·intro w' hw
    go_simp
    try with_reducible rfl
   simp only[nz]
   refine hs_t 11 2 (?_) rfl (by kernel_rfl) (by kernel_rfl) (by kernel_rfl) (by rfl) ?_ hS rfl ?_
   rotate_left
   ·intro w' hw
    go_simp
    try with_reducible rfl
   simp only[nz]
   refine zE (by kernel_rfl) ?_
   go_wp2
   go_ret
   exact⟨rfl,hB8.trans (hS.mono hB8.size)⟩
set_option linter.unusedVariables false
set_option linter.unusedSimpArgs false
theorem enc1 (q:List Value) (b:Bool) (zs:List Int) (w:World) (hq:q.length=119)
  (hg:∀w0,Below w.heap.size w w0→Calls prog 57 #[.agg q.toArray] w0 fun e w'=>e=.returned (.bool b)∧Below w0.heap.size w0 w') (hw:b=true→∀(X:Nat) (w0:World),Below w.heap.size w w0→w.heap.size≤X→WrAt w0 X (.slice none 0 0) [] false→Calls prog 58 #[.pointer (some ⟨X,0,none⟩),.agg q.toArray] w0 fun e w'=>WrOn X (.slice none 0 0) [] zs w0 e w'):
  Calls prog 22 #[.agg q.toArray] w fun e w'=>e=.returned (encV b zs)∧Below w.heap.size w w':=by
 have hB:Below w.heap.size w (w.alloc (.cells q.toArray 52)):=(Below.refl _ _).alloc (Nat.le_refl _) _
 have hs:w.heap.size<(w.alloc (.cells q.toArray 52)).heap.size:=by simp
 have hA:(w.alloc (.cells q.toArray 52)).rangeAt w.heap.size 0 q:=by simpa using zy w q.toArray 52
 have iq:(prog.info? 52).map (·.size)=some q.length:=by rw[hq];exact iszM
 clear hq
 cases b
 ·show Calls prog 22 #[.agg q.toArray] w fun e w'=>e=.returned (.tuple #[.string ⟨#[]⟩,.int .i64 130])∧Below w.heap.size w w'
  clear hw
  go_enter func22,ntmps22
  go_upto_region 1 with fail
  go_name_world w1 hw1
  rw[show w.alloc (.cells q.toArray 52)=w1 from hw1]at hB hs hA
  clear hw1
  go_wp2_with (refine wpList_load_mid rfl 52 _ rfl _ _ rfl q _ hA underlying52 rfl iq ?_)
  refine(hg _ hB).mono ?_
  rintro e2 w2 ⟨rfl,hb2⟩
  have hB2:=hB.trans (hb2.mono (by omega))
  clear hA hg hB hb2
  go_wp2
  go_ret2
  exact⟨rfl,hB2⟩
 ·show Calls prog 22 #[.agg q.toArray] w fun e w'=>e=.returned (.tuple #[.string (strOf zs),.int .i64 0])∧Below w.heap.size w w'
  replace hw:=hw rfl
  obtain⟨sz,hsz⟩:∃sz,Hid (strOf zs=sz):=⟨_,hide rfl⟩
  rw[hsz.out]
  go_enter func22,ntmps22
  go_upto_region 1 with fail
  go_name_world w1 hw1
  rw[show w.alloc (.cells q.toArray 52)=w1 from hw1]at hB hs hA
  clear hw1
  go_wp2_with (refine wpList_load_mid rfl 52 _ rfl _ _ rfl q _ hA underlying52 rfl iq ?_)
  refine(hg _ hB).mono ?_
  rintro e2 w2 ⟨rfl,hb2⟩
  have hB2:=hB.trans (hb2.mono (by omega))
  have hA2:=zd hA hb2 hs
  have hs2:=Nat.lt_of_lt_of_le hs hb2.size
  clear hA hg hB hb2 hs
  go_upto_region 4 with fail
  have hN:=zdY w2
  have hB3:Below w2.heap.size w2 (w2.alloc (.cells #[.slice none 0 0,.bool false] 116)):=(Below.refl _ _).alloc (Nat.le_refl _) _
  go_name_world w3 hw3
  rw[show w2.alloc (.cells #[.slice none 0 0,.bool false] 116)=w3 from hw3]at hN hB3
  clear hw3
  have hA3:=zd hA2 hB3 hs2
  have hB4:=hB2.trans (hB3.mono (by omega))
  have cw:=hw w2.heap.size w3 hB4 hB2.size hN
  have hs3:=hN.lt
  clear hA2 hB2 hB3 hw hN
  go_wp2_with (refine wpList_load_mid rfl 52 _ rfl _ _ rfl q _ hA3 underlying52 rfl iq ?_)
  refine cw.mono ?_
  rintro e5 w5 ⟨v5,rfl,hW5,hO5,_⟩
  rw[List.nil_append]at hW5
  have c0:=hW5.c0
  have c1:=hW5.c1
  have hcs:=zdo hW5.me
  have hB5:=hB4.trans (hO5.below (n:=w.heap.size) (by omega) (fun b hb hf=>by
   rcases hf with hf|hf
   ·omega
   ·cases hf))
  obtain⟨a5,cap5,rfl⟩:∃a cap,v5=.slice a zs.length cap:=by
   rcases zaV hW5.me.1 with⟨rfl,h0,_⟩|⟨g,cap,rfl,_⟩
   ·exact⟨none,0,by rw[h0]⟩
   ·exact⟨_,cap,rfl⟩
  rw[hsz.out]at hcs
  clear hsz cw hW5 hO5 hA3 hB4
  go_wp2
  go_ret2
  exact⟨rfl,hB5⟩
structure Bat where
 q:Bool
 a:Option Addr
 cap:Nat
 rs:List BRq
def Bat.cells (x:Bat):List Value:=[.bool x.q,.slice x.a x.rs.length x.cap]
def Bat.at (x:Bat) (w:World):Prop:=ReqsAt w x.a x.rs∧True∧True
def BatsAt (w:World) (b:Nat) (xs:List Bat):Prop:=xs.length≤2∧(∀x∈xs,x.at w)∧b<w.heap.size∧w.rangeAt b 0 (xs.flatMap Bat.cells)
def wtR (rs:List BRq):Nat:=(rs.map fun r=>20+r.s.size).sum
def wt (xs:List Bat):Nat:=(xs.map fun x=>5+wtR x.rs).sum
theorem zdh (R:Nat) (rest:List Int) (e n:Int) (w:World) (h:St w R rest e) (hl:rest.length≤40000):
  Calls prog 41 #[.pointer (some ⟨R,0,none⟩),.int .i64 n] w fun en w'=>∃v,en=.returned v∧Mine w' w.heap.size v (rawS rest e n).1∧St w' R (rawS rest e n).2.1 (rawS rest e n).2.2∧w.grownBy w' (some R):=by
 by_cases he:e=0
 ·subst he
  by_cases hn:n<0
  ·have HS:Hid (rawS rest 0 n=([],rest,2)):=by show _=_;unfold rawS;rw[if_pos rfl,if_pos hn]
   go_enter func41,ntmps41
   go_wp2_with fail
   refine(zat R 0 w h.1).mono ?_
   rintro en w1 ⟨rfl,rfl⟩
   go_wp2_with fail
   refine(zbZ R 0 2 w1 h.1).mono ?_
   rintro en w2 ⟨rfl,hE2,hg2⟩
   go_wp2_with fail
   go_ret
   rw[HS.out]
   exact⟨_,rfl,Mine.nil _ _,⟨hE2,fun h=>by cases h⟩,hg2⟩
  ·by_cases hf:(rest.length:Int)<n
   ·have HS:Hid (rawS rest 0 n=([],rest,10)):=by show _=_;unfold rawS;rw[if_pos rfl,if_neg hn,if_pos hf]
    go_enter func41,ntmps41
    go_wp2_with fail
    refine(zat R 0 w h.1).mono ?_
    rintro en w1 ⟨rfl,rfl⟩
    go_wp2_with fail
    refine(zfc R rest n w1 h hf).mono ?_
    rintro en w2 ⟨rfl,hS2,hg2⟩
    have cc:=zdG none 0 [] w2 (zaR w2) (by simp)
    simp only[List.length_nil]at cc
    go_wp2_with fail
    refine cc.mono ?_
    rintro en w3 ⟨v,rfl,hm,hb⟩
    go_wp2_with fail
    go_ret
    rw[HS.out]
    exact⟨_,rfl,hm.mono' hg2.size,hS2.below hb,zt hg2 (zW hb _)⟩
   ·have HS:Hid (rawS rest 0 n=(rest.take n.toNat,rest.drop n.toNat,0)):=by show _=_;unfold rawS;rw[if_pos rfl,if_neg hn,if_neg hf]
    go_enter func41,ntmps41
    go_wp2_with fail
    refine(zat R 0 w h.1).mono ?_
    rintro en w1 ⟨rfl,rfl⟩
    go_wp2_with fail
    refine(zfb R rest n w1 h (by omega) (by omega)).mono ?_
    rintro en w2 ⟨a,cap,rfl,hca,hra,hS2,hg2⟩
    have cc:=zdG a cap (rest.take n.toNat) w2 hra (by rw[List.length_take];omega)
    rw[List.length_take_of_le (by omega)]at cc
    go_wp2_with fail
    refine cc.mono ?_
    rintro en w3 ⟨v,rfl,hm,hb⟩
    go_wp2_with fail
    go_ret
    rw[HS.out]
    exact⟨_,rfl,hm.mono' hg2.size,hS2.below hb,zt hg2 (zW hb _)⟩
 ·have HS:Hid (rawS rest e n=([],rest,e)):=by show _=_;unfold rawS;rw[if_neg he]
  have he':(e==0)=false:=by simpa using he
  go_enter func41,ntmps41
  go_wp2_with fail
  refine(zat R e w h.1).mono ?_
  rintro en w1 ⟨rfl,rfl⟩
  go_wp2_with fail
  go_ret
  rw[HS.out]
  exact⟨_,rfl,Mine.nil _ _,h,zaF _ _⟩
theorem zw {w W W':World} {R B:Nat} (h:w.grownBy W (some R)) (hb:Below B W W') (hB:w.heap.size≤B):w.grownBy W' (some R):=
 ⟨hb.os.trans h.os,hb.tape.trans h.tape,hb.output.trans h.output,Nat.le_trans h.size hb.size,fun i hi hr=>(hb.block i (by omega)).trans (h.block i hi hr)⟩
theorem zM (W:World) (b:Nat):∀(vs:List Value) (o:Nat),W.grownBy (W.setCells b o vs) (some b):=by
  intro vs
  induction vs generalizing W with
  |nil=>intro o;exact zaF _ _
  |cons v vs ih=>intro o;exact zt (zN W b o v) (ih _ (o+1))
theorem zaJ {w w':World} {R b:Nat} {cs:List Value} (h:w.rangeAt b 0 cs) (hg:w.grownBy w' (some R)) (hb:b<w.heap.size) (hne:b≠R):w'.rangeAt b 0 cs:=fun j v hv=>by
 rw[(@zO w w' b (0+j) (hg.block b hb (by intro q;injection q with q;exact hne q))).1]
 exact h j v hv
theorem zJ {w w':World} {R b n:Nat} (h:w.there b 0 n) (hg:w.grownBy w' (some R)) (hb:b<w.heap.size) (hne:b≠R):w'.there b 0 n:=fun j hj=>by
 have hk:=@zO w w' b (0+j) (hg.block b hb (by intro q;injection q with q;exact hne q))
 exact⟨by rw[hk.1];exact(h j hj).1,by rw[hk.2];exact(h j hj).2⟩
theorem zdz {P:Program} {o:Oper} {a:Act} {w w':World} {s x:Operand} {t tx:TypeId} {v xv v':Value} (ho:o.op=.call {callee:=.builtin .copy,args:=#[s,x],argTypes:=#[t,tx]}) (hv:a.eval s=v) (hx:a.eval x=xv)
    (hr:(Builtin.copy_ #[t,tx] o.type #[v,xv]).run P w=.ok v' w'):(execOp a.eval o).run P w=.ok (.value v') w':=by
  unfold execOp
  simp only[ho,resolve,invoke,builtin,Sem.run_bind,Sem.run_pure,Result.andThen_ok,List.map_toArray,List.map_cons,List.map_nil,hv,hx,hr]
theorem zal (rest:List Int) (e most:Int):(numS rest e most).2.1.length≤rest.length:=by
 unfold numS
 split
 ·split
  ·split
   ·exact Nat.le_refl _
   ·show(rest.drop _).length≤_;rw[List.length_drop];omega
  ·exact Nat.le_refl _
 ·exact Nat.le_refl _
theorem zcc (rest:List Int) (e most:Int):(textS rest e most).2.1.length≤rest.length:=by
 have h:=zal rest e 9223372036854775807
 unfold textS
 split
 ·split
  ·exact Nat.le_refl _
  ·split
   ·exact Nat.le_refl _
   ·show((numS rest e 9223372036854775807).2.1.drop _).length≤_;rw[List.length_drop];omega
 ·exact Nat.le_refl _
def padN (n:Nat) (zs:List Int):List Int:=if zs.length=n then zs else List.replicate n 0
theorem zcj (rest:List Int) (e n:Int):(rawS rest e n).2.1.length≤rest.length:=by
 unfold rawS
 split
 ·split
  ·exact Nat.le_refl _
  ·split
   ·exact Nat.le_refl _
   ·show(rest.drop _).length≤_;rw[List.length_drop];omega
 ·exact Nat.le_refl _
theorem zbC (rest:List Int) (e:Int) (n:Nat):(rawS rest e n).1.length=n∨(rawS rest e n).1=[]:=by
 unfold rawS
 split
 ·split
  ·exact .inr rfl
  ·split
   ·exact .inr rfl
   ·left;show(rest.take _).length=n;rw[List.length_take];omega
 ·exact .inr rfl
theorem zfW {w:World} {B n:Nat} {a:Option Addr} {cap:Nat} {t:List Int} (h0:0<n) (hT:w.there B 0 n) (hz:w.rangeAt B 0 (v8 (List.replicate n (0:Int)))) (hrow:RowAt w a t) (ht:t.length=n∨t=[]):
  ∃w',(Builtin.copy_ #[59,59] 3 #[.slice (some ⟨B,0,none⟩) n n,.slice a t.length cap]).run prog w=.ok (goInt t.length) w'∧w'.rangeAt B 0 (v8 (padN n t))∧w'=w.setCells B 0 (v8 t):=by
 rcases ht with ht|rfl
 ·rcases hrow.2.2 with rfl|⟨b,off,rfl,hb,hr⟩
  ·exfalso;simp at ht;omega
  ·refine⟨_,?_,?_,rfl⟩
   ·have:=run_copy_cells (P:=prog) w 59 59 3 5 B 0 n n ⟨b,off,none⟩ t.length cap (v8 t) underlying59 isz8 (by rw[v8_length,ht];exact(Nat.min_self _).symm) (fun j v hv=>by rw[Addr.add_mid];exact hr j v hv) (fun j hj=>by rw[v8_length]at hj;exact(hT j (by omega)).1) (fun j hj=>by rw[v8_length]at hj;exact(hT j (by omega)).2) (zI _)
    rw[v8_length]at this
    exact this
   ·unfold padN
    rw[if_pos ht]
    exact World.rangeAt_setCells_same w B 0 (v8 t) (by rw[v8_length,ht];exact hT)
 ·refine⟨w,run_copy_none (P:=prog) w 59 59 3 5 _ a n n 0 cap underlying59 isz8 (by simp),?_,rfl⟩
  unfold padN
  rw[if_neg (by simp;omega)]
  exact hz
theorem zag (n:Nat) (zs:List Int):(padN n zs).length=n:=by
 unfold padN
 split
 ·assumption
 ·simp
theorem zao {w w':World} {b n:Nat} (h:w.there b 0 n) (hb:Below w.heap.size w w') (hlt:b<w.heap.size):w'.there b 0 n:=zY h (hb.block b hlt)
theorem zaS {w:World} {b q o:Nat} {vs:List Value} (h:q≠b):(w.setCells b o vs).heap[q]? =w.heap[q]? :=by
 by_cases hq:q<w.heap.size
 ·exact(zM w b vs o).block q hq (by intro e;injection e with e;exact h e)
 ·have h1:w.heap.size≤q:=by omega
  rw[Array.getElem?_eq_none (by rw[zH];exact h1),Array.getElem?_eq_none h1]
theorem zeC (Q R:Nat) (z:Bool) (rest:List Int) (e:Int) (w:World) (h:St w R rest e) (hq:MrAt w Q R z) (hl:rest.length≤40000):Calls prog 157 #[.pointer (some ⟨Q,0,none⟩)] w fun en w'=>en=.returned (.agg (v8 (padN 16 (rawS rest e 16).1)).toArray)∧St w' R (rawS rest e 16).2.1 (rawS rest e 16).2.2∧w.grownBy w' (some R):=by
 obtain⟨zc,hzc,hzr⟩:∃zc:List Value,Hid (zc=v8 (List.replicate 16 (0:Int)))∧∀w':World,(zeroValue 23).run prog w'=.ok (.agg zc.toArray) w':=⟨_,hide rfl,fun w=>by kernel_rfl⟩
 have hRw:=h.1.1
 have hQw:=hq.lt
 obtain⟨hB1,hr1,hs1⟩:=zu w zc 23
 have ht1:=zm w zc.toArray 23 (n:=16) (by rw[hzc.out];simp)
 have hip:(prog.info? 23).map (·.size)=some (v8 (padN 16 (rawS rest e 16).1)).length:=by rw[v8_length,zag];kernel_rfl
 have hp1:=zI (padN 16 (rawS rest e 16).1)
 have hpl:(v8 (padN 16 (rawS rest e 16).1)).length=16:=by rw[v8_length,zag]
 obtain⟨pc,hpc⟩:∃p,Hid (v8 (padN 16 (rawS rest e 16).1)=p):=⟨_,hide rfl⟩
 rw[hpc.out]at hip hp1 hpl ⊢
 go_enter func157,ntmps157
 go_upto_region 0 with fail
 try simp only[Act.put]
 refine zb ?_
 refine zj (d:=some 2) (v:=.pointer (some ⟨w.heap.size,0,none⟩)) (w':=w.alloc (.cells zc.toArray 23)) (by rfl) (zr rfl (hzr _)) rfl ?_
 simp only[nz]
 refine za ?_
 obtain⟨W1,hW1⟩:∃W,w.alloc (.cells zc.toArray 23)=W:=⟨_,rfl⟩
 rw[hW1]at hB1 hr1 hs1 ht1 ⊢
 clear hW1
 obtain⟨hB2,hr2,hs2⟩:=zu W1 zc 23
 have ht2:=zm W1 zc.toArray 23 (n:=16) (by rw[hzc.out];simp)
 go_upto_region 1 with fail
 try simp only[Act.put]
 refine zb ?_
 refine zj (d:=some 3) (v:=.pointer (some ⟨W1.heap.size,0,none⟩)) (w':=W1.alloc (.cells zc.toArray 23)) (by rfl) (zr rfl (hzr _)) rfl ?_
 simp only[nz]
 refine za ?_
 obtain⟨W2,hW2⟩:∃W,W1.alloc (.cells zc.toArray 23)=W:=⟨_,rfl⟩
 rw[hW2]at hB2 hr2 hs2 ht2 ⊢
 clear hW2
 rw[hzc.out]at hr2
 have thA0:=zao ht1 hB2 hs1
 have hBW:=hB1.trans (hB2.mono hB1.size)
 clear hr1 ht1 hzr hzc
 go_upto_region 2 with fail
 have hB8:Below w.heap.size w W2.drew:=hBW.drew
 have rz8:W2.drew.rangeAt W1.heap.size 0 _:=(World.rangeAt_drew _ _ _ _).2 hr2
 have th8:W2.drew.there W1.heap.size 0 16:=ht2
 have thA8:W2.drew.there w.heap.size 0 16:=thA0
 have hB1':W1.heap.size<W2.drew.heap.size:=hs2
 refine zG (S:=(fun W'=>MrAt W' Q R z)) 7 rfl (by kernel_rfl) ?_
 obtain⟨w8,hw8⟩:∃W,W2.drew=W:=⟨_,rfl⟩
 rw[hw8]at hB8 rz8 th8 thA8 hB1' ⊢
 clear hw8 hr2 ht2 thA0 hBW hs2 hB2
 have st8:=h.below hB8
 have hq8:=hq.below hB8
 have hne1:W1.heap.size≠R:=by omega
 have hS:(fun W'=>MrAt W' Q R z) w8:=hq8
 refine hs_t 0 4 (?_) rfl (by kernel_rfl) (by kernel_rfl) (by kernel_rfl) (by rfl) ?_ hS rfl ?_
 rotate_left
 ·intro w' hw
  go_simp
  try with_reducible rfl
 simp only[nz]
 refine hs_t 1 5 (?_) rfl (by kernel_rfl) (by kernel_rfl) (by kernel_rfl) (by rfl) ?_ hS rfl ?_
 rotate_left
 ·intro w' hw
  go_simp
  try with_reducible rfl
 simp only[nz]
 refine hs_t 2 6 (?_) rfl (by kernel_rfl) (by kernel_rfl) (by kernel_rfl) (by rfl) ?_ hS rfl ?_
 rotate_left
 ·intro w' hw
  go_simp
  try with_reducible rfl
 simp only[nz]
 refine hs_t 3 7 (?_) rfl (by kernel_rfl) (by kernel_rfl) (by kernel_rfl) (by rfl) ?_ hS rfl ?_
 rotate_left
 ·intro w' hw
  go_simp
  try with_reducible rfl
 simp only[nz]
 refine hs_t 4 8 (.pointer (some ⟨R,0,none⟩)) rfl (by kernel_rfl) (by kernel_rfl) (by kernel_rfl) (by rfl) (fun w' hw=>zg rfl rfl hw.c0 underlying98 rfl) hS rfl ?_
 simp only[nz]
 refine zx (i:=5) (d:=some 9) rfl (by kernel_rfl) (by rfl) (by go_simp;first|done|exact⟨rfl,rfl⟩|with_reducible rfl) rfl ?_
 refine(zdh R rest e 16 w8 st8 hl).mono ?_
 rintro _ w9 ⟨v9,rfl,m9,st9,g9⟩
 have hS:(fun W'=>MrAt W' Q R z) w9:=hq8.gb g9
 refine⟨_,rfl,hS,?_⟩
 obtain⟨av,cv,hve,_,_,row9⟩:=m9.rowAt (by unfold maxLen;have hN:(rawS rest e 16).1.length=16∨(rawS rest e 16).1=[]:=zbC rest e 16;rcases hN with h|h<;>(rw[h];simp))
 rw[hve]
 obtain⟨wc,hcp,hrc,hwc⟩:=zfW (n:=16) (cap:=cv) (by decide) (zJ th8 g9 hB1' hne1) (zaJ rz8 g9 hB1' hne1) row9 (zbC rest e 16)
 clear hve
 simp only[nz]
 have hSc:(fun W'=>MrAt W' Q R z) wc:=by rw[hwc];exact(hq8.gb g9).at (zaS (by omega)) (by rw[zH];exact Nat.le_refl _)
 refine zaa (i:=6) (d:=some 10) (v:=goInt (rawS rest e 16).1.length) (w':=wc) rfl (by kernel_rfl) (by rfl) (zdz rfl rfl rfl hcp) rfl hSc ?_
 simp only[nz]
 refine zE (by kernel_rfl) ?_
 have g8:w.grownBy w8 (some R):=zW hB8 _
 have g9':=zt g8 g9
 have hlow:Below w.heap.size w9 wc:=by rw[hwc];exact zi (by omega) _ _ _ (Below.refl _ _)
 have thA:wc.there w.heap.size 0 16:=by rw[hwc];exact World.there_setCells (zJ thA8 g9 (by omega) (by omega)) _ _ _
 have gc:=zw g9' hlow (Nat.le_refl _)
 have sc:St wc R _ _:=st9.belowN hlow hRw
 rw[hpc.out]at hrc
 clear hwc hcp m9 row9 st8 hq8 g9 g8 st9 hlow hS rz8 th8 thA8 hB8 hpc
 go_upto_region 3 with fail
 try simp only[Act.put]
 refine zb ?_
 refine pl_t 11 (.agg pc.toArray) (by rfl) (zp rfl rfl hrc underlying23 rfl hip) rfl ?_
 simp only[nz]
 refine zf (w':=wc.setCells w.heap.size 0 pc) (by rfl) (zn (cs:=pc.toArray) rfl rfl rfl (by simpa [hpl]using thA) (by simpa using hip) (zo hp1)) rfl ?_
 refine za ?_
 have hrs:=run_loadVar_mid (P:=prog) (wc.setCells w.heap.size 0 pc) w.heap.size 0 23 pc _ (World.rangeAt_setCells_same wc w.heap.size 0 pc (by rw[hpl];exact thA)) underlying23 rfl hip
 have gf:=zw gc (zi (B:=w.heap.size) (b:=w.heap.size) (Nat.le_refl _) pc 0 _ (Below.refl _ wc)) (Nat.le_refl _)
 have sf:St (wc.setCells w.heap.size 0 pc) R _ _:=sc.belowN (n:=w.heap.size) (zi (Nat.le_refl _) pc 0 _ (Below.refl _ wc)) hRw
 clear sc gc
 go_wp2_with fail
 refine bodyPost_ret (v:=.agg pc.toArray) ?_ rfl ?_
 ·simp[results,results157,Act.put,asAddr,hrs]
 ·exact⟨rfl,sf,gf⟩
theorem zeN (Q R:Nat) (z:Bool) (rest:List Int) (e:Int) (w:World) (h:St w R rest e) (hq:MrAt w Q R z) (hl:rest.length≤40000):Calls prog 113 #[.pointer (some ⟨Q,0,none⟩)] w fun en w'=>en=.returned (.agg (v8 (padN 32 (rawS rest e 32).1)).toArray)∧St w' R (rawS rest e 32).2.1 (rawS rest e 32).2.2∧w.grownBy w' (some R):=by
 obtain⟨zc,hzc,hzr⟩:∃zc:List Value,Hid (zc=v8 (List.replicate 32 (0:Int)))∧∀w':World,(zeroValue 41).run prog w'=.ok (.agg zc.toArray) w':=⟨_,hide rfl,fun w=>by kernel_rfl⟩
 have hRw:=h.1.1
 have hQw:=hq.lt
 obtain⟨hB1,hr1,hs1⟩:=zu w zc 41
 have ht1:=zm w zc.toArray 41 (n:=32) (by rw[hzc.out];simp)
 have hip:(prog.info? 41).map (·.size)=some (v8 (padN 32 (rawS rest e 32).1)).length:=by rw[v8_length,zag];kernel_rfl
 have hp1:=zI (padN 32 (rawS rest e 32).1)
 have hpl:(v8 (padN 32 (rawS rest e 32).1)).length=32:=by rw[v8_length,zag]
 obtain⟨pc,hpc⟩:∃p,Hid (v8 (padN 32 (rawS rest e 32).1)=p):=⟨_,hide rfl⟩
 rw[hpc.out]at hip hp1 hpl ⊢
 go_enter func113,ntmps113
 go_upto_region 0 with fail
 try simp only[Act.put]
 refine zb ?_
 refine zj (d:=some 2) (v:=.pointer (some ⟨w.heap.size,0,none⟩)) (w':=w.alloc (.cells zc.toArray 41)) (by rfl) (zr rfl (hzr _)) rfl ?_
 simp only[nz]
 refine za ?_
 obtain⟨W1,hW1⟩:∃W,w.alloc (.cells zc.toArray 41)=W:=⟨_,rfl⟩
 rw[hW1]at hB1 hr1 hs1 ht1 ⊢
 clear hW1
 obtain⟨hB2,hr2,hs2⟩:=zu W1 zc 41
 have ht2:=zm W1 zc.toArray 41 (n:=32) (by rw[hzc.out];simp)
 go_upto_region 1 with fail
 try simp only[Act.put]
 refine zb ?_
 refine zj (d:=some 3) (v:=.pointer (some ⟨W1.heap.size,0,none⟩)) (w':=W1.alloc (.cells zc.toArray 41)) (by rfl) (zr rfl (hzr _)) rfl ?_
 simp only[nz]
 refine za ?_
 obtain⟨W2,hW2⟩:∃W,W1.alloc (.cells zc.toArray 41)=W:=⟨_,rfl⟩
 rw[hW2]at hB2 hr2 hs2 ht2 ⊢
 clear hW2
 rw[hzc.out]at hr2
 have thA0:=zao ht1 hB2 hs1
 have hBW:=hB1.trans (hB2.mono hB1.size)
 clear hr1 ht1 hzr hzc
 go_upto_region 2 with fail
 have hB8:Below w.heap.size w W2.drew:=hBW.drew
 have rz8:W2.drew.rangeAt W1.heap.size 0 _:=(World.rangeAt_drew _ _ _ _).2 hr2
 have th8:W2.drew.there W1.heap.size 0 32:=ht2
 have thA8:W2.drew.there w.heap.size 0 32:=thA0
 have hB1':W1.heap.size<W2.drew.heap.size:=hs2
 refine zG (S:=(fun W'=>MrAt W' Q R z)) 7 rfl (by kernel_rfl) ?_
 obtain⟨w8,hw8⟩:∃W,W2.drew=W:=⟨_,rfl⟩
 rw[hw8]at hB8 rz8 th8 thA8 hB1' ⊢
 clear hw8 hr2 ht2 thA0 hBW hs2 hB2
 have st8:=h.below hB8
 have hq8:=hq.below hB8
 have hne1:W1.heap.size≠R:=by omega
 have hS:(fun W'=>MrAt W' Q R z) w8:=hq8
 refine hs_t 0 4 (?_) rfl (by kernel_rfl) (by kernel_rfl) (by kernel_rfl) (by rfl) ?_ hS rfl ?_
 rotate_left
 ·intro w' hw
  go_simp
  try with_reducible rfl
 simp only[nz]
 refine hs_t 1 5 (?_) rfl (by kernel_rfl) (by kernel_rfl) (by kernel_rfl) (by rfl) ?_ hS rfl ?_
 rotate_left
 ·intro w' hw
  go_simp
  try with_reducible rfl
 simp only[nz]
 refine hs_t 2 6 (?_) rfl (by kernel_rfl) (by kernel_rfl) (by kernel_rfl) (by rfl) ?_ hS rfl ?_
 rotate_left
 ·intro w' hw
  go_simp
  try with_reducible rfl
 simp only[nz]
 refine hs_t 3 7 (?_) rfl (by kernel_rfl) (by kernel_rfl) (by kernel_rfl) (by rfl) ?_ hS rfl ?_
 rotate_left
 ·intro w' hw
  go_simp
  try with_reducible rfl
 simp only[nz]
 refine hs_t 4 8 (.pointer (some ⟨R,0,none⟩)) rfl (by kernel_rfl) (by kernel_rfl) (by kernel_rfl) (by rfl) (fun w' hw=>zg rfl rfl hw.c0 underlying98 rfl) hS rfl ?_
 simp only[nz]
 refine zx (i:=5) (d:=some 9) rfl (by kernel_rfl) (by rfl) (by go_simp;first|done|exact⟨rfl,rfl⟩|with_reducible rfl) rfl ?_
 refine(zdh R rest e 32 w8 st8 hl).mono ?_
 rintro _ w9 ⟨v9,rfl,m9,st9,g9⟩
 have hS:(fun W'=>MrAt W' Q R z) w9:=hq8.gb g9
 refine⟨_,rfl,hS,?_⟩
 obtain⟨av,cv,hve,_,_,row9⟩:=m9.rowAt (by unfold maxLen;have hN:(rawS rest e 32).1.length=32∨(rawS rest e 32).1=[]:=zbC rest e 32;rcases hN with h|h<;>(rw[h];simp))
 rw[hve]
 obtain⟨wc,hcp,hrc,hwc⟩:=zfW (n:=32) (cap:=cv) (by decide) (zJ th8 g9 hB1' hne1) (zaJ rz8 g9 hB1' hne1) row9 (zbC rest e 32)
 clear hve
 simp only[nz]
 have hSc:(fun W'=>MrAt W' Q R z) wc:=by rw[hwc];exact(hq8.gb g9).at (zaS (by omega)) (by rw[zH];exact Nat.le_refl _)
 refine zaa (i:=6) (d:=some 10) (v:=goInt (rawS rest e 32).1.length) (w':=wc) rfl (by kernel_rfl) (by rfl) (zdz rfl rfl rfl hcp) rfl hSc ?_
 simp only[nz]
 refine zE (by kernel_rfl) ?_
 have g8:w.grownBy w8 (some R):=zW hB8 _
 have g9':=zt g8 g9
 have hlow:Below w.heap.size w9 wc:=by rw[hwc];exact zi (by omega) _ _ _ (Below.refl _ _)
 have thA:wc.there w.heap.size 0 32:=by rw[hwc];exact World.there_setCells (zJ thA8 g9 (by omega) (by omega)) _ _ _
 have gc:=zw g9' hlow (Nat.le_refl _)
 have sc:St wc R _ _:=st9.belowN hlow hRw
 rw[hpc.out]at hrc
 clear hwc hcp m9 row9 st8 hq8 g9 g8 st9 hlow hS rz8 th8 thA8 hB8 hpc
 go_upto_region 3 with fail
 try simp only[Act.put]
 refine zb ?_
 refine pl_t 11 (.agg pc.toArray) (by rfl) (zp rfl rfl hrc underlying41 rfl hip) rfl ?_
 simp only[nz]
 refine zf (w':=wc.setCells w.heap.size 0 pc) (by rfl) (zn (cs:=pc.toArray) rfl rfl rfl (by simpa [hpl]using thA) (by simpa using hip) (zo hp1)) rfl ?_
 refine za ?_
 have hrs:=run_loadVar_mid (P:=prog) (wc.setCells w.heap.size 0 pc) w.heap.size 0 41 pc _ (World.rangeAt_setCells_same wc w.heap.size 0 pc (by rw[hpl];exact thA)) underlying41 rfl hip
 have gf:=zw gc (zi (B:=w.heap.size) (b:=w.heap.size) (Nat.le_refl _) pc 0 _ (Below.refl _ wc)) (Nat.le_refl _)
 have sf:St (wc.setCells w.heap.size 0 pc) R _ _:=sc.belowN (n:=w.heap.size) (zi (Nat.le_refl _) pc 0 _ (Below.refl _ wc)) hRw
 clear sc gc
 go_wp2_with fail
 refine bodyPost_ret (v:=.agg pc.toArray) ?_ rfl ?_
 ·simp[results,results113,Act.put,asAddr,hrs]
 ·exact⟨rfl,sf,gf⟩
theorem zh8 (a:Option Addr) (cap:Nat) (zs:List Int) (w:World) (h:RowAt w a zs) (hl:zs.length≤40000):
  Calls prog 43 #[.slice a zs.length cap] w fun e w'=>∃X,e=.returned (.pointer (some ⟨X,0,none⟩))∧w.heap.size≤X∧RSt w.heap.size w' X zs 0∧Below w.heap.size w w':=by
 obtain⟨i0,hi,hz0,hz1,hz2⟩:=zT info8
 go_enter func43,ntmps43
 go_wp2_with (at_builtin;refine zac _ rfl _ _ 59 59 rfl w.heap.size 5 i0 (.int .u8 0) 1 1 underlying59 hi hz0 hz1 hz2 rfl _ 0 [] rfl (World.ownsRow_made w #[] 0 (Nat.le_refl _) (by simp) (by simp)) (.slice a zs.length cap) zs.length (zs.map (Value.int .u8)) rfl ((h.below ((Below.refl _ _).alloc (Nat.le_refl _) _)).src cap) ?c1 ?c2 ?c3 ?_)
 case c1=>unfold maxLen;omega
 case c2=>omega
 case c3=>simp
 intro v' w1 hown hgrow
 have hb:Below w.heap.size w w1:=((Below.refl _ _).alloc (Nat.le_refl _) _).grown hgrow (by simp) (fun k hk=>by simp[Value.ownBlock]at hk;omega)
 have hmine:Mine w1 w.heap.size v' zs:=⟨by simpa using hown,h.2.1⟩
 clear hown hgrow
 obtain⟨a',cap',rfl,hc1,hc2,hr⟩:=hmine.rowAt (by unfold maxLen;omega)
 have hblk:∀x,a'=some x→w.heap.size≤x.block∧x.block<w1.heap.size:=fun x hx=>hmine.1.lt x.block (by simp[hx,Value.ownBlock])
 have hb2:Below w1.heap.size w1 (w1.alloc (.cells #[.slice a' zs.length cap',.int .i64 0,.int .i64 0] 130)):=(Below.refl _ _).alloc (Nat.le_refl _) _
 have hSt:RSt w.heap.size (w1.alloc (.cells #[.slice a' zs.length cap',.int .i64 0,.int .i64 0] 130)) w1.heap.size zs 0:=by
  have cs:∀j,(w1.alloc (.cells #[.slice a' zs.length cap',.int .i64 0,.int .i64 0] 130)).cell? ⟨w1.heap.size,j,none⟩=(#[.slice a' zs.length cap',.int .i64 0,.int .i64 0]:Array Value)[j]? :=fun j=>World.cell?_alloc_at _ _ _ _ rfl
  have fs:∀j,(w1.alloc (.cells #[.slice a' zs.length cap',.int .i64 0,.int .i64 0] 130)).frozen? ⟨w1.heap.size,j,none⟩=false:=fun j=>World.frozen?_alloc_at _ _ _ _ rfl
  exact⟨zs,0,⟨by simp,⟨a',cap',cs 0,hc1,hc2,hr.below hb2,hblk⟩,cs 1,cs 2,fs 0,fs 1,fs 2,Nat.zero_le _,hl⟩,fun _=>rfl⟩
 go_wp2_with fail
 go_ret
 exact⟨_,rfl,hb.size,hSt,hb.trans (hb2.mono hb.size)⟩
open Go Go.RowKit
section
variable {P : Program} {ops : Array Oper} {Q : Exit → Act → World → Prop} {md : Region.Mode}
def Held (P:Program) (ops:Array Oper) (Q:Exit→Act→World→Prop) (w0:World) (fuel:Nat) (listed:Array Bool) (a:Act) (w:World):Prop:=
 wpAnyH P .any ops (NoPanic Q) (fun w'=>Below w0.heap.size w0 w') fuel listed a w
theorem zjx {id:Nat} {a:Act} {w:World} (n:Nat) (hn:ops.size=n) (hm:P.follows .mixedOrders=true) (h:Held P ops Q w.drew n (Array.replicate n false) a w.drew):(Code.region id ops true).wp P Q a w:=by
 subst hn
 exact wp_region_noPanic (wp_region_held hm h)
theorem zas {i:Nat} {oi:Oper} {d:Option Nat} {v:Value} {fuel:Nat} {listed:Array Bool} {a:Act} {w w0:World} (hi:ops[i]? =some oi)
  (hs:Region.noSelect ops=true) (hf:Region.free .any ops listed i=true) (hr:(Region.ready .any ops listed).contains i=true)
  (hw:Region.wanted oi (yielded ops a.tmps)=true) (hy:∀w',Below w0.heap.size w0 w'→(execOp a.eval oi).run P w'=.ok (.value v) w') (hS:Below w0.heap.size w0 w) (hdst:oi.dst=d)
  (h:Held P ops Q w0 fuel (listed.setIfInBounds i true) (a.put d v) w):Held P ops Q w0 (fuel+1) listed a w:=by
 subst hdst
 exact wpAnyH_take hi hs hf hr (fun _ _ _ h=>h) (Or.inl ⟨hw,hy⟩) hS h
theorem zfx {i:Nat} {oi:Oper} {d:Option Nat} {v:Value} {fuel:Nat} {listed:Array Bool} {a:Act} {w w' w0:World} (hi:ops[i]? =some oi)
  (hr:Region.ready .any ops listed=[i]) (hw:Region.wanted oi (yielded ops a.tmps)=true) (hy:(execOp a.eval oi).run P w=.ok (.value v) w') (hdst:oi.dst=d)
  (hS:Below w0.heap.size w0 w') (h:Held P ops Q w0 fuel (listed.setIfInBounds i true) (a.put d v) w'):Held P ops Q w0 (fuel+1) listed a w:=by
 subst hdst
 refine wpAnyH_all hr (by simp) ?_
 intro j hj
 obtain rfl:j=i:=by simpa using hj
 unfold wpOp
 simp only[hi,hw,if_true]
 left
 unfold Oper.wp
 rw[hy]
 exact⟨hS,h⟩
theorem zcC {o:Oper} {a:Act} {w w':World} {s x:Operand} {t tx:TypeId} {v xv v':Value} (ho:o.op=.call {callee:=.builtin .append,args:=#[s,x],argTypes:=#[t,tx]}) (hs:a.eval s=v) (hx:a.eval x=xv)
    (hr:(Builtin.append_ #[t,tx] o.type #[v,xv]).run P w=.ok v' w'):(execOp a.eval o).run P w=.ok (.value v') w':=by
  unfold execOp
  simp only[ho,resolve,invoke,builtin,Sem.run_bind,Sem.run_pure,Result.andThen_ok,List.map_toArray,List.map_cons,List.map_nil,hs,hx,hr]
theorem zjw {fuel:Nat} {listed:Array Bool} {a:Act} {w w0:World} (hr:Region.ready .any ops listed=[]) (h:Q .normal a w):Held P ops Q w0 fuel listed a w:=
 wpAnyH_done hr (NoPanic.normal h) fuel
end
end Go.Proofs.YtcbpbkefggekmaaGreatDoor
