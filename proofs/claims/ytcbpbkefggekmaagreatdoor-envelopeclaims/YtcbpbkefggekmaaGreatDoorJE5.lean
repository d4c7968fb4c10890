/- requests and batches as bytes: the program's and the document's; A plain region, operation by operation: what is wanted yields its value, what is not is passed  -/
import Derived.Test.YtcbpbkefggekmaaGreatDoorJE0
import Derived.Test.YtcbpbkefggekmaaGreatDoorJE4
import Derived.Test.YtcbpbkefggekmaaGreatDoorJE2
import Derived.Laws.MakeOwn
import Derived.Deep.OwnRows
import Derived.Test.YtcbpbkefggekmaaGreatDoorJE1
import Derived.Test.YtcbpbkefggekmaaGreatDoorJE3
import Derived.Deep.Upon
set_option maxHeartbeats 8000000
set_option maxRecDepth 100000
open Go.Proofs.Tryz
namespace Go.Proofs.YtcbpbkefggekmaaGreatDoor
open Go.RowKit
open Sha Tal
set_option linter.unusedVariables false
set_option linter.unusedSimpArgs false
def reqL (c n:Int) (s:ByteArray) (t:List Int):List Value:=.int .i64 c::.int .i64 n::.string s::v8 t
theorem zbN (w:World) (c n:Int) (s:ByteArray) (t:List Int):(w.alloc (.cells (reqL c n s t).toArray 81)).rangeAt w.heap.size 0 (reqL c n s t):=by
 have:=zy w (reqL c n s t).toArray 81
 simpa using this
theorem zbo {w:World} {b:Nat} {c n:Int} {s:ByteArray} {t:List Int} (h:w.rangeAt b 0 (reqL c n s t)):w.cell? ⟨b,0,none⟩=some (.int .i64 c)∧w.cell? ⟨b,1,none⟩=some (.int .i64 n)∧w.cell? ⟨b,2,none⟩=some (.string s):=
 ⟨h 0 _ rfl,h 1 _ rfl,h 2 _ rfl⟩
theorem zfL (a:Option Addr) (cap:Nat) (zs:List Int) (c n:Int) (s:ByteArray) (t:List Int) (w:World) (h:RowAt w a zs) (hm:zs.length≤1000000) (hc:c≤9223372036854775807) (hn:n≤9223372036854775807) (hs:s.size≤1000000):
   Calls prog 149 #[.slice a zs.length cap,.agg (reqL c n s t).toArray] w fun e w'=>∃v,e=.returned v∧Mine w' w.heap.size v (zs++putL c++putL n++textL s)∧Below w.heap.size w w':=by
  have hB1:Below w.heap.size w (w.alloc (.cells (reqL c n s t).toArray 81)):=(Below.refl _ _).alloc (Nat.le_refl _) _
  have hR1:=zbN w c n s t
  have hz1:w.heap.size<(w.alloc (.cells (reqL c n s t).toArray 81)).heap.size:=by simp
  have hlc:=zab c (by omega)
  have hln:=zab n (by omega)
  obtain⟨q,hq⟩:∃q,Hid (reqL c n s t=q):=⟨_,rfl⟩
  rw[hq.out]at hB1 hz1 ⊢
  rw[hq.out]at hR1
  obtain⟨z1,hz1'⟩:∃z1,Hid (zs++putL c=z1):=⟨_,rfl⟩
  obtain⟨z2,hz2'⟩:∃z2,Hid (z1++putL n=z2):=⟨_,rfl⟩
  have l1:z1.length≤1000009:=by rw[←hz1'.out,List.length_append];omega
  have l2:z2.length≤1000018:=by rw[←hz2'.out,List.length_append];omega
  rw[hz1'.out,hz2'.out]
  clear hlc hln
  go_enter func149,ntmps149
  go_wp2_with fail
  go_name_world w1 hw1
  rw[show w.alloc (.cells q.toArray 81)=w1 from hw1]at hB1 hR1 hz1
  clear hw1
  have hB4:=hB1.drew
  have hR4:w1.drew.rangeAt w.heap.size 0 q:=(World.rangeAt_drew _ _ _ _).2 hR1
  have hz4:w.heap.size<w1.drew.heap.size:=hz1
  have h4:=h.below hB4
  clear hB1 hR1 hz1
  obtain⟨X,hX⟩:∃X,Hid (w.heap.size=X):=⟨_,rfl⟩
  rw[hX.out]at hR4 hz4 ⊢
  obtain⟨w5,hw5⟩:∃w5,w1.drew=w5:=⟨_,rfl⟩
  rw[hw5]at hB4 hR4 hz4 h4
  have cells:∀w',Below w5.heap.size w5 w'→w'.cell? ⟨X,0,none⟩=some (.int .i64 c)∧w'.cell? ⟨X,1,none⟩=some (.int .i64 n)∧w'.cell? ⟨X,2,none⟩=some (.string s):=fun w' hw'=>by
    have:=zd hR4 hw' hz4
    rw[←hq.out]at this
    exact zbo this
  refine zG (S:=(Below w5.heap.size w5)) 11 rfl (by kernel_rfl) ?_
  rw[hw5]
  clear hw5 hR4
  have hS:(Below w5.heap.size w5) w5:=Below.refl _ _
  refine hs_t 0 5 (?_) rfl (by kernel_rfl) (by kernel_rfl) (by kernel_rfl) (by rfl) ?_ hS rfl ?_
  rotate_left
  · intro w' hw
    go_simp
    try with_reducible rfl
  simp only[nz]
  refine hs_t 1 6 (?_) rfl (by kernel_rfl) (by kernel_rfl) (by kernel_rfl) (by rfl) ?_ hS rfl ?_
  rotate_left
  · intro w' hw
    go_simp
    try with_reducible rfl
  simp only[nz]
  refine hs_t 2 7 (?_) rfl (by kernel_rfl) (by kernel_rfl) (by kernel_rfl) (by rfl) ?_ hS rfl ?_
  rotate_left
  · intro w' hw
    have hc:=(cells w' hw).1
    go_simp
    try with_reducible rfl
  simp only[nz]
  refine hs_t 4 9 (?_) rfl (by kernel_rfl) (by kernel_rfl) (by kernel_rfl) (by rfl) ?_ hS rfl ?_
  rotate_left
  · intro w' hw
    go_simp
    try with_reducible rfl
  simp only[nz]
  refine hs_t 5 10 (?_) rfl (by kernel_rfl) (by kernel_rfl) (by kernel_rfl) (by rfl) ?_ hS rfl ?_
  rotate_left
  · intro w' hw
    have hc:=(cells w' hw).2.1
    go_simp
    try with_reducible rfl
  simp only[nz]
  refine hs_t 7 12 (?_) rfl (by kernel_rfl) (by kernel_rfl) (by kernel_rfl) (by rfl) ?_ hS rfl ?_
  rotate_left
  · intro w' hw
    go_simp
    try with_reducible rfl
  simp only[nz]
  refine hs_t 8 13 (?_) rfl (by kernel_rfl) (by kernel_rfl) (by kernel_rfl) (by rfl) ?_ hS rfl ?_
  rotate_left
  · intro w' hw
    have hc:=(cells w' hw).2.2
    go_simp
    try with_reducible rfl
  simp only[nz]
  clear cells
  have c6:=zbq a cap zs c w5 h4 (by omega) hc
  rw[hz1'.out]at c6
  refine zx (i:=3) (d:=some 8) rfl (by kernel_rfl) (by rfl) (by go_simp;first|done|exact⟨rfl,rfl⟩|with_reducible rfl) rfl ?_
  refine(c6).mono ?_
  rintro e' w6 ⟨v6,rfl,hM6,hw6⟩
  have hS:(Below w5.heap.size w5) w6:=hS.trans (hw6.mono hS.size)
  refine⟨_,rfl,hS,?_⟩
  simp only[nz]
  obtain⟨a6,cap6,rfl,_,_,hrow6⟩:=hM6.rowAt (by unfold maxLen;omega)
  clear c6 hM6 hw6
  have c7:=zbq a6 cap6 z1 n w6 hrow6 (by omega) hn
  rw[hz2'.out]at c7
  refine zx (i:=6) (d:=some 11) rfl (by kernel_rfl) (by rfl) (by go_simp;first|done|exact⟨rfl,rfl⟩|with_reducible rfl) rfl ?_
  refine(c7).mono ?_
  rintro e' w7 ⟨v7,rfl,hM7,hw7⟩
  have hS:(Below w5.heap.size w5) w7:=hS.trans (hw7.mono hS.size)
  refine⟨_,rfl,hS,?_⟩
  simp only[nz]
  obtain⟨a7,cap7,rfl,_,_,hrow7⟩:=hM7.rowAt (by unfold maxLen;omega)
  have hs7:w5.heap.size≤w7.heap.size:=hS.size
  clear c7 hM7 hw7 hrow6
  have c8:=ze1 a7 cap7 z2 s w7 hrow7 (by omega) (by omega)
  refine zx (i:=9) (d:=some 14) rfl (by kernel_rfl) (by rfl) (by go_simp;first|done|exact⟨rfl,rfl⟩|with_reducible rfl) rfl ?_
  refine(c8).mono ?_
  rintro e' w8 ⟨v8,rfl,hM8,hw8⟩
  have hS:(Below w5.heap.size w5) w8:=hS.trans (hw8.mono hS.size)
  refine⟨_,rfl,hS,?_⟩
  simp only[nz]
  have hfin:=hB4.trans (hS.mono hB4.size)
  have hM9:Mine w8 w.heap.size v8 (z2++textL s):=⟨ziu hM8.1 (by have:=hB4.size;omega),hM8.2⟩
  clear c8 hM8 hw8 hrow7
  refine hs_t 10 4 (?_) rfl (by kernel_rfl) (by kernel_rfl) (by kernel_rfl) (by rfl) ?_ hS rfl ?_
  rotate_left
  · intro w' hw
    go_simp
    try with_reducible rfl
  simp only[nz]
  refine zE (by kernel_rfl) ?_
  go_wp2
  go_ret
  exact⟨_,rfl,hM9,hfin⟩
theorem zaI (c n:Int) (s:ByteArray) (t:List Int) (ht:t.length=16):(reqL c n s t).length=19:=by simp[reqL,v8_length,ht]
theorem iszR:(prog.info? 81).map (·.size)=some 19:=by kernel_rfl
theorem zbn (c n:Int) (s:ByteArray) (t:List Int):∀v∈reqL c n s t,v.oneCell'=true:=by
 intro v hv
 simp only[reqL,List.mem_cons]at hv
 rcases hv with rfl|rfl|rfl|hv
 ·rfl
 ·rfl
 ·rfl
 ·exact zI t v hv
theorem zh4 {w:World} {b:Nat} {c n:Int} {s:ByteArray} {t:List Int} (h:w.rangeAt b 0 (reqL c n s t)):w.rangeAt b 3 (v8 t):=by
 have e:reqL c n s t=[.int .i64 c,.int .i64 n,.string s]++v8 t:=rfl
 rw[e]at h
 exact zZ h
theorem zhT (a:Option Addr) (cap:Nat) (zs:List Int) (c n:Int) (s:ByteArray) (t:List Int) (w:World) (h:RowAt w a zs) (hz:zs.length≤1000000) (ht:t.length=16) (htb:∀z∈t,0≤z∧z<256) (hc:c≤9223372036854775807) (hn:n≤9223372036854775807) (hs:s.size≤1000000):
   Calls prog 179 #[.slice a zs.length cap,.agg (reqL c n s t).toArray] w fun e w'=>∃v,e=.returned v∧Mine w' w.heap.size v (zs++(putL c++putL n++textL s)++t)∧Below w.heap.size w w':=by
  obtain⟨i0,hi,hz0,hz1,hz2⟩:=zT info8
  have hB1:Below w.heap.size w (w.alloc (.cells (reqL c n s t).toArray 81)):=(Below.refl _ _).alloc (Nat.le_refl _) _
  have hR1:=zbN w c n s t
  have hz1':w.heap.size<(w.alloc (.cells (reqL c n s t).toArray 81)).heap.size:=by simp
  have hiq:(prog.info? 81).map (·.size)=some (reqL c n s t).length:=by rw[zaI c n s t ht];exact iszR
  have cf:=fun w0=>zfL none 0 [] c n s t w0 (zaR w0) (by simp) hc hn hs
  simp only[List.nil_append,List.length_nil]at cf
  have htg:=fun(w0:World) (b0:Nat) h1=>@zh4 w0 b0 c n s t h1
  have lF:(putL c++putL n++textL s).length≤1000100:=by
    have h1:=zab c (by omega)
    have h2:=zab n (by omega)
    have h3:=zab s.size (by omega)
    simp only[textL,List.length_append,zad]
    omega
  obtain⟨F,hF⟩:∃F,Hid (putL c++putL n++textL s=F):=⟨_,hide rfl⟩
  simp only[hF.out]at cf
  rw[hF.out]at lF ⊢
  obtain⟨q,hq⟩:∃q,Hid (reqL c n s t=q):=⟨_,hide rfl⟩
  rw[hq.out]at hB1 hR1 hz1' hiq ⊢
  simp only[hq.out]at cf htg
  go_enter func179,ntmps179
  go_upto_region 1 with fail
  go_name_world w1 hw1
  rw[hw1]at hB1 hR1 hz1'
  clear hw1
  obtain⟨X,hX⟩:∃X,Hid (w.heap.size=X):=⟨_,hide rfl⟩
  rw[hX.out]at hR1 hz1' ⊢
  try simp only[Act.put]
  refine wp_region_list ?_
  refine wpList_load_mid rfl 81 _ rfl _ _ rfl q _ hR1 underlying81 rfl hiq ?_
  go_wp2_with fail
  refine(cf w1).mono ?_
  rintro e w2 ⟨v2,rfl,m2,hw2⟩
  have hB2:=hB1.trans (hw2.mono hB1.size)
  have hR2:=zd hR1 hw2 hz1'
  have hX2:=Nat.lt_of_lt_of_le hz1' hw2.size
  obtain⟨a2,cap2,rfl,_,_,row2⟩:=m2.rowAt (by unfold maxLen;omega)
  have mF:=m2.2
  clear cf m2 hw2 hB1 hR1 hz1'
  go_wp2_with (first
    |refine wpList_make_own _ rfl _ _ 59 rfl w2.heap.size 5 i0 (.int .u8 0) 1 underlying59 hi hz0 hz1 .i64 .i64 _ (zs.length+F.length+16) rfl rfl ?d1 ?d2 ?d3 ?d4 ?_)
  case d1=>omega
  case d2=>rw[hz2];omega
  case d3=>unfold maxLen;omega
  case d4=>exact Nat.le_refl _
  intro w3 hown3 hgrow3
  have hb3:Below w2.heap.size w2 w3:=(Below.refl _ _).grown hgrow3 (Nat.le_refl _) (fun k hk=>by cases hk)
  go_wp2_with (at_builtin;refine zac _ rfl _ _ 59 59 rfl w2.heap.size 5 i0 (.int .u8 0) 1 1 underlying59 hi hz0 hz1 hz2 rfl _ 0 [] rfl hown3 (.slice a zs.length cap) zs.length (v8 zs) rfl ((h.below (hB2.trans (hb3.mono hB2.size))).src cap) ?c1 ?c2 ?c3 ?_)
  case c1=>unfold maxLen;omega
  case c2=>omega
  case c3=>exact hb3.size
  intro v4 w4 hown4 hgrow4
  have hb4:=zau hb3 hb3.size hown3 hgrow4
  have hown4':w4.ownsRow w2.heap.size 5 1 v4 zs.length (v8 zs):=by simpa using hown4
  obtain⟨b4,cp4,rfl⟩:∃b cp,v4=.slice b zs.length cp:=by
    rcases hown4'.2 with⟨rfl,h0⟩|⟨g,cp,cur,rfl,_⟩
    · exact⟨none,0,by rw[h0]⟩
    · exact⟨_,_,rfl⟩
  clear hown3 hgrow3 hown4 hgrow4 hb3
  go_wp2_with (at_builtin;refine zac _ rfl _ _ 59 59 rfl w2.heap.size 5 i0 (.int .u8 0) 1 1 underlying59 hi hz0 hz1 hz2 rfl _ zs.length (v8 zs) rfl hown4' (.slice a2 F.length cap2) F.length (v8 F) rfl ((row2.below hb4).src cap2) ?c1 ?c2 ?c3 ?_)
  case c1=>unfold maxLen;omega
  case c2=>omega
  case c3=>exact hb4.size
  intro v5 w5 hown5 hgrow5
  have hb5:=zau hb4 hb4.size hown4' hgrow5
  obtain⟨b5,cp5,rfl⟩:∃b cp,v5=.slice b (zs.length+F.length) cp:=by
    rcases hown5.2 with⟨rfl,h0⟩|⟨g,cp,cur,rfl,_⟩
    · exact⟨none,0,by rw[h0]⟩
    · exact⟨_,_,rfl⟩
  have hR5:=htg w5 X (zd hR2 hb5 hX2)
  have hX5:=Nat.lt_of_lt_of_le hX2 hb5.size
  have rowT:RowAt w5 (some ⟨X,3,none⟩) t:=⟨by unfold maxLen;omega,htb,Or.inr ⟨X,3,rfl,hX5,hR5⟩⟩
  have srcT:=rowT.src 16
  rw[ht]at srcT
  have hsl:=fun w0=>zbi (P:=prog) underlying23 isz8 X 3 (by decide) w0
  clear hown4' hgrow5 hb4 row2 hR2
  go_wp2_with (at_builtin;refine zac _ rfl _ _ 59 59 rfl w2.heap.size 5 i0 (.int .u8 0) 1 1 underlying59 hi hz0 hz1 hz2 rfl _ (zs.length+F.length) (v8 zs++v8 F) rfl hown5 (.slice (some ⟨X,3,none⟩) 16 16) 16 (v8 t) rfl srcT ?c1 ?c2 ?c3 ?_)
  case c1=>unfold maxLen;omega
  case c2=>omega
  case c3=>exact hb5.size
  intro v6 w6 hown6 hgrow6
  have hb6:=zau hb5 hb5.size hown5 hgrow6
  go_wp2_with fail
  go_ret
  refine⟨_,rfl,?_,hB2.trans (hb6.mono hB2.size)⟩
  have hm:=Mine.mk' (zs++F++t) hown6 (by simp[ht];omega) (by simp[v8]) (by
    intro z hz'
    rcases List.mem_append.1 hz' with hz'|hz'
    · rcases List.mem_append.1 hz' with hz'|hz'
      · exact h.2.1 z hz'
      · exact mF z hz'
    · exact htb z hz')
  exact hm.mono' hB2.size
structure BRq where
 c:Int
 n:Int
 s:ByteArray
 t:List Int
deriving Inhabited
structure BRq.ok (r:BRq):Prop where
 tl:r.t.length=16
 tb:∀z∈r.t,0≤z∧z<256
 sl:r.s.size≤maxLen
 cl:-9223372036854775808≤r.c
 ch:r.c≤9223372036854775807
 nl:-9223372036854775808≤r.n
 nh:r.n≤9223372036854775807
def BRq.cells (r:BRq):List Value:=reqL r.c r.n r.s r.t
theorem BRq.ok.length {r:BRq} (h:r.ok):r.cells.length=19:=by
 have:=h.tl
 simp[BRq.cells,reqL,v8]
 omega
theorem BRq.one (r:BRq):∀v∈r.cells,v.oneCell'=true:=zbn _ _ _ _
def flatR (rs:List BRq):List Value:=rs.flatMap BRq.cells
theorem zjR {rs:List BRq} (h:∀r∈rs,r.ok):(flatR rs).length=rs.length*19:=by
  induction rs with
  |nil=>rfl
  |cons r rs ih=>
    have h1:=(h r (by simp)).length
    have h2:=ih (fun x hx=>h x (by simp[hx]))
    simp only[flatR,List.flatMap_cons,List.length_append,List.length_cons]at*
    omega
theorem zfK (a b:List BRq):flatR (a++b)=flatR a++flatR b:=by simp[flatR]
def ReqsAt (w:World) (a:Option Addr) (rs:List BRq):Prop:=
 rs.length≤maxLen∧(∀r∈rs,r.ok)∧(rs=[]∨∃b off,a=some ⟨b,off,none⟩∧b<w.heap.size∧w.rangeAt b off (flatR rs))
theorem ReqsAt.below {w w':World} {a:Option Addr} {rs:List BRq} (h:ReqsAt w a rs) (hb:Below w.heap.size w w'):ReqsAt w' a rs:=by
 refine⟨h.1,h.2.1,?_⟩
 rcases h.2.2 with h|⟨b,off,rfl,h1,h2⟩
 ·exact Or.inl h
 ·exact Or.inr ⟨b,off,rfl,Nat.lt_of_lt_of_le h1 hb.size,zd h2 hb h1⟩
theorem zjQ (rs:List BRq) (i:Nat) (hi:i<rs.length):flatR rs=flatR (rs.take i)++rs[i].cells++flatR (rs.drop (i+1)):=by
 have e:rs.take i++(rs[i]::rs.drop (i+1))=rs:=by rw[←List.drop_eq_getElem_cons hi,List.take_append_drop]
 have e2:=congrArg flatR e
 rw[←e2]
 simp only[flatR,List.flatMap_append,List.flatMap_cons,List.append_assoc]
theorem ReqsAt.elem {w:World} {a:Option Addr} {rs:List BRq} (h:ReqsAt w a rs) (i:Nat) (hi:i<rs.length):∃b off,a=some ⟨b,off,none⟩∧b<w.heap.size∧w.rangeAt b (off+i*19) rs[i].cells:=by
 rcases h.2.2 with h0|⟨b,off,rfl,h1,h2⟩
 ·subst h0;simp at hi
 ·refine⟨b,off,rfl,h1,?_⟩
  rw[zjQ rs i hi]at h2
  have h3:=zeP h2
  rwa [zjR (fun r hr=>h.2.1 r (List.mem_of_mem_take hr)),List.length_take,Nat.min_eq_left (by omega)]at h3
theorem ReqsAt.none {w:World} {a:Option Addr}:ReqsAt w a []:=⟨by simp,by simp,.inl rfl⟩
def batV (b:Bool) (a:Option Addr) (n cap:Nat):Value:=.agg #[.bool b,.slice a n cap]
def BRq.bytes (r:BRq):List Int:=putL r.c++putL r.n++textL r.s++r.t
def batL (q:Bool) (rs:List BRq):List Int:=if q then putL 0 else putL ((rs.length:Int)+1)++rs.flatMap BRq.bytes
theorem BRq.ok.isz {r:BRq} (h:r.ok):(prog.info? 81).map (·.size)=some r.cells.length:=by rw[h.length];exact iszR
theorem BRq.ok.iszA {r:BRq} (h:r.ok):(prog.info? 81).map (·.size)=some r.cells.toArray.size:=by rw[List.size_toArray,h.length];exact iszR
theorem BRq.ok.blank {r:BRq} (h:r.ok) (w:World):(w.alloc (.cells #[.int .i64 0,.int .i64 0,.string ⟨#[]⟩,.int .u8 0,.int .u8 0,.int .u8 0,.int .u8 0,.int .u8 0,.int .u8 0,.int .u8 0,.int .u8 0,.int .u8 0,.int .u8 0,.int .u8 0,.int .u8 0,.int .u8 0,.int .u8 0,.int .u8 0,.int .u8 0] 81)).there w.heap.size 0 r.cells.toArray.size:=by
 have:=zK w #[.int .i64 0,.int .i64 0,.string ⟨#[]⟩,.int .u8 0,.int .u8 0,.int .u8 0,.int .u8 0,.int .u8 0,.int .u8 0,.int .u8 0,.int .u8 0,.int .u8 0,.int .u8 0,.int .u8 0,.int .u8 0,.int .u8 0,.int .u8 0,.int .u8 0,.int .u8 0] 81
 have e:r.cells.toArray.size=19:=by rw[List.size_toArray,h.length]
 rw[e];exact this
def BatBox (w:World) (b:Nat) (q:Bool) (a:Option Addr) (n cap:Nat):Prop:=b<w.heap.size∧w.cell? ⟨b,0,none⟩=some (.bool q)∧w.cell? ⟨b,1,none⟩=some (.slice a n cap)∧w.rangeAt b 0 [.bool q,.slice a n cap]
theorem BatBox.mk (w:World) (q:Bool) (a:Option Addr) (n cap:Nat):BatBox (w.alloc (.cells #[.bool q,.slice a n cap] 39)) w.heap.size q a n cap:=by
 have:=zy w #[.bool q,.slice a n cap] 39
 exact⟨by simp,this 0 _ rfl,this 1 _ rfl,this⟩
theorem iszB:(prog.info? 39).map (·.size)=some 2:=by kernel_rfl
def batP (rs:List BRq) (k:Nat):List Int:=putL ((rs.length:Int)+1)++(rs.take k).flatMap BRq.bytes
theorem zkK (rs:List BRq) (k:Nat) (hk:k<rs.length):batP rs (k+1)=batP rs k++rs[k].bytes:=by
 unfold batP
 rw[List.take_succ_eq_append_getElem hk]
 simp only[List.flatMap_append,List.flatMap_cons,List.flatMap_nil,List.append_nil,List.append_assoc]
theorem zgm (rs:List BRq):batP rs rs.length=batL false rs:=by unfold batP batL;simp
theorem zbS (n:Int) (h:n≤9223372036854775807):(putL n).length≤9:=by
 have:=zab n (by omega)
 omega
theorem zf9 {r:BRq} (h:r.ok) (hs:r.s.size≤4000):r.bytes.length≤4100:=by
 have h1:=zbS r.c h.ch
 have h2:=zbS r.n h.nh
 have h3:=zbS (r.s.size:Int) (by omega)
 have h4:=h.tl
 simp only[BRq.bytes,textL,List.length_append,zad]
 omega
theorem zfJ:∀(rs:List BRq),(∀r∈rs,r.ok)→(∀r∈rs,r.s.size≤4000)→(rs.flatMap BRq.bytes).length≤rs.length*4100
  |[],_,_=>by simp
  |r::rs,h1,h2=>by
    have k1:=zf9 (h1 r (by simp)) (h2 r (by simp))
    have k2:=zfJ rs (fun x hx=>h1 x (by simp[hx])) (fun x hx=>h2 x (by simp[hx]))
    simp only[List.flatMap_cons,List.length_append,List.length_cons]
    omega
theorem zgl (rs:List BRq) (k:Nat) (hn:rs.length≤200) (h1:∀r∈rs,r.ok) (h2:∀r∈rs,r.s.size≤4000):(batP rs k).length≤900000:=by
 have k1:=zbS ((rs.length:Int)+1) (by omega)
 have k2:=zfJ (rs.take k) (fun x hx=>h1 x (List.mem_of_mem_take hx)) (fun x hx=>h2 x (List.mem_of_mem_take hx))
 have k3:(rs.take k).length≤200:=by rw[List.length_take];omega
 have k4:(rs.take k).length*4100≤200*4100:=Nat.mul_le_mul_right _ k3
 simp only[batP,List.length_append]
 omega
theorem zkL (q:Bool) (rs:List BRq) (hn:rs.length≤200) (h1:∀r∈rs,r.ok) (h2:∀r∈rs,r.s.size≤4000):(batL q rs).length≤900000:=by
  cases q with
  |false=>rw[←zgm];exact zgl rs _ hn h1 h2
  |true=>have:=zbS 0 (by omega);simp only[batL,if_true];omega
theorem BRq.ok.put {r:BRq} (h:r.ok) (hs:r.s.size≤4000) (w:World):Calls prog 179 #[.slice none 0 0,.agg r.cells.toArray] w fun e w'=>∃v,e=.returned v∧Mine w' w.heap.size v r.bytes∧Below w.heap.size w w':=by
 have:=zhT none 0 [] r.c r.n r.s r.t w (zaR w) (by simp) h.tl h.tb h.ch h.nh (by omega)
 simpa only[List.nil_append,List.length_nil,BRq.bytes,BRq.cells]using this
theorem zky (q:Bool) (a:Option Addr) (cap:Nat) (rs:List BRq) (w:World) (h:ReqsAt w a rs) (hn:rs.length≤200) (hs:∀r∈rs,r.s.size≤4000):
  Calls prog 171 #[batV q a rs.length cap] w fun e w'=>∃v,e=.returned v∧Mine w' w.heap.size v (batL q rs)∧Below w.heap.size w w':=by
 obtain⟨i0,hi,hz0,hz1,hz2⟩:=zT info8
 unfold batV
 have hB1:Below w.heap.size w (w.alloc (.cells #[.bool q,.slice a rs.length cap] 39)):=(Below.refl _ _).alloc (Nat.le_refl _) _
 have hb1:=BatBox.mk w q a rs.length cap
 cases q with
 |true=>
  have cp:=fun w0=>zbq none 0 [] 0 w0 (zaR w0) (by simp) (by omega)
  simp only[List.nil_append,List.length_nil]at cp
  have hL:Hid (batL true rs=putL 0):=by show _=_;simp[batL]
  rw[hL.out]
  go_enter func171,ntmps171
  go_upto_region 1 with fail
  go_name_world w1 hw1
  rw[hw1]at hB1 hb1
  clear hw1
  obtain⟨_,c0,c1,_⟩:=hb1
  go_wp2_with fail
  refine(cp w1).mono ?_
  rintro e w2 ⟨v2,rfl,m2,hw2⟩
  go_wp2_with fail
  go_ret
  exact⟨_,rfl,m2.mono' hB1.size,hB1.trans (hw2.mono hB1.size)⟩
 |false=>
  have hall:=h.2.1
  have hle:=fun k=>zgl rs k hn hall hs
  have cp:=fun w0=>zbq none 0 [] ((rs.length:Int)+1) w0 (zaR w0) (by simp) (by omega)
  simp only[List.nil_append,List.length_nil]at cp
  have h1:=h.below hB1
  go_enter func171,ntmps171
  go_upto_region 1 with fail
  go_name_world w1 hw1
  rw[hw1]at hB1 hb1 h1
  clear hw1
  obtain⟨_,c0,c1,_⟩:=hb1
  go_wp2_with fail
  refine(cp w1).mono ?_
  rintro e w2 ⟨v2,rfl,m2,hw2⟩
  have c1':=(hw2.cell (p:=⟨w.heap.size,1,none⟩) (by omega)).trans c1
  clear cp
  go_wp2
  go_loopw [3,17] (fun ov iv wr=>∃k:Nat,k≤rs.length∧iv=.int .i64 (k:Int)∧Hid (Mine wr w1.heap.size ov (batP rs k))∧Below w1.heap.size w1 wr) (fun _ iv _=>rs.length - (intOf iv).toNat)
  case atStart=>exact⟨0,by omega,rfl,hide (by simpa [batP]using m2),hw2⟩
  case round=>
   clear c1' m2 hw2
   obtain⟨k,hk,rfl,HM,hB⟩:=hrel
   by_cases hlt:k<rs.length
   ·have k1:(k:Int)<rs.length:=by omega
    have hrow:=h1.below hB
    have HS:=hide (zkK rs k hlt)
    have hlen:=hle k
    obtain⟨b,off,rfl,hb,hre⟩:=hrow.elem k hlt
    obtain⟨r,hr⟩:∃r,Hid (rs[k]=r):=⟨_,hide rfl⟩
    have hok:r.ok:=by rw[←hr.out];exact hall _ (List.getElem_mem hlt)
    have hrs:r.s.size≤4000:=by rw[←hr.out];exact hs _ (List.getElem_mem hlt)
    rw[hr.out]at hre HS
    clear hr hrow
    have hiq:=hok.isz
    have hiA:=hok.iszA
    have hN:=hok.blank wr
    have h1c:=all_oneCell_toArray r.one
    have hbl:=zf9 hok hrs
    have cpr:=fun w0=>hok.put hrs w0
    have F:=zA wr #[.int .i64 0,.int .i64 0,.string ⟨#[]⟩,.int .u8 0,.int .u8 0,.int .u8 0,.int .u8 0,.int .u8 0,.int .u8 0,.int .u8 0,.int .u8 0,.int .u8 0,.int .u8 0,.int .u8 0,.int .u8 0,.int .u8 0,.int .u8 0,.int .u8 0,.int .u8 0] 81 r.cells (by rw[hok.length];rfl)
    obtain⟨q,hq⟩:∃q,Hid (r.cells=q):=⟨_,hide rfl⟩
    rw[hq.out]at hre hiq hiA hN h1c F
    simp only[hq.out]at cpr
    obtain⟨bs,hbs⟩:∃bs,Hid (r.bytes=bs):=⟨_,hide rfl⟩
    simp only[hbs.out]at cpr
    rw[hbs.out]at HS hbl
    clear hq hbs hok hrs
    go_upto_region 6 with fail
    try simp only[Act.put]
    refine wp_region_list ?_
    refine wpList_step fun K hK=>?_
    go_simp
    refine hK _ _ ?_
    clear hK K
    refine wpList_load_mid rfl 81 _ rfl _ _ rfl q _ hre underlying81 rfl hiq ?_
    go_upto_region 7 with(refine wpList_store_mid (op:=⟨none,.store 81 (.tmp 5) (.tmp 20),_,_,_,none⟩) rfl 81 _ _ rfl _ _ q.toArray rfl rfl hN hiA h1c ?_)
    go_name_world w3 hw3
    rw[show(wr.alloc (.cells #[.int .i64 0,.int .i64 0,.string ⟨#[]⟩,.int .u8 0,.int .u8 0,.int .u8 0,.int .u8 0,.int .u8 0,.int .u8 0,.int .u8 0,.int .u8 0,.int .u8 0,.int .u8 0,.int .u8 0,.int .u8 0,.int .u8 0,.int .u8 0,.int .u8 0,.int .u8 0] 81)).setCells wr.heap.size 0 q=w3 from hw3]at F
    clear hw3 hN
    obtain⟨hR3,hF3,hz3,_⟩:=F
    have hB3:=hB.trans (hF3.mono hB.size)
    have HM3:=hide (HM.out.below hF3)
    clear HM hF3 hre
    try simp only[Act.put]
    refine wp_region_list ?_
    refine wpList_step fun K hK=>?_
    go_simp
    refine hK _ _ ?_
    clear hK K
    refine wpList_load_mid rfl 81 _ rfl _ _ rfl q _ hR3 underlying81 rfl hiq ?_
    go_wp2_with fail
    refine(cpr w3).mono ?_
    rintro e w4 ⟨v4,rfl,m4,hw4⟩
    have hB4:=hB3.trans (hw4.mono hB3.size)
    have m3:=HM3.out.below hw4
    obtain⟨a4,cap4,rfl,_,_,row4⟩:=m4.rowAt (by unfold maxLen;omega)
    clear HM3 cpr
    go_wp2_with (at_builtin;refine zac _ rfl _ _ 59 59 rfl w1.heap.size 5 i0 (.int .u8 0) 1 1 underlying59 hi hz0 hz1 hz2 rfl _ (batP rs k).length ((batP rs k).map (Value.int .u8)) rfl m3.1 (.slice a4 bs.length cap4) bs.length (v8 bs) rfl (row4.src cap4) ?c1 ?c2 ?c3 ?_)
    case c1=>unfold maxLen;omega
    case c2=>omega
    case c3=>exact hB4.size
    intro v5 w5 hown5 hgrow5
    have hB5:=zau hB4 hB4.size m3.1 hgrow5
    have mbs:=m4.2
    have mbp:=m3.2
    clear m3 m4 row4 hgrow5
    go_wp2
    go_roundw
    case rel=>
     refine⟨k+1,by omega,by go_num,hide ?_,hB5⟩
     rw[HS.out]
     exact Mine.mk' (batP rs k++bs) hown5 (by simp) (by simp[v8]) (by
      intro z hz'
      rcases List.mem_append.1 hz' with hz'|hz'
      ·exact mbp z hz'
      ·exact mbs z hz')
    case measure=>simp[intOf];omega
   ·obtain rfl:k=rs.length:=by omega
    go_wp2
    go_ret
    exact⟨_,rfl,by rw[←zgm];exact HM.out.mono' hB1.size,hB1.trans (hB.mono hB1.size)⟩
theorem batI (q:Bool) (a:Option Addr) (n cap:Nat):(prog.info? 39).map (·.size)=some [Value.bool q,.slice a n cap].length:=iszB
theorem zkE (a0:Option Addr) (cap0:Nat) (zs:List Int) (q:Bool) (a:Option Addr) (cap:Nat) (rs:List BRq) (w:World) (h0:RowAt w a0 zs) (hzl:zs.length≤90000) (h:ReqsAt w a rs) (hn:rs.length≤200) (hs:∀r∈rs,r.s.size≤4000):
  Calls prog 143 #[.slice a0 zs.length cap0,batV q a rs.length cap] w fun e w'=>∃v,e=.returned v∧Mine w' w.heap.size v (zs++batL q rs)∧Below w.heap.size w w':=by
 obtain⟨i0,hi,hz0,hz1,hz2⟩:=zT info8
 have lF:=zkL q rs hn h.2.1 hs
 have cf:=fun w0 h0=>zky q a cap rs w0 h0 hn hs
 unfold batV at cf ⊢
 obtain⟨F,hF⟩:∃F,Hid (batL q rs=F):=⟨_,hide rfl⟩
 rw[hF.out]at lF ⊢
 simp only[hF.out]at cf
 clear hF
 have hB1:Below w.heap.size w (w.alloc (.cells #[.bool q,.slice a rs.length cap] 39)):=(Below.refl _ _).alloc (Nat.le_refl _) _
 have hb1:=BatBox.mk w q a rs.length cap
 have h1:=h.below hB1
 have hib:=batI q a rs.length cap
 go_enter func143,ntmps143
 go_upto_region 1 with fail
 go_name_world w1 hw1
 rw[hw1]at hB1 hb1 h1
 clear hw1
 try simp only[Act.put]
 refine wp_region_list ?_
 refine wpList_load_mid rfl 39 _ rfl _ _ rfl [.bool q,.slice a rs.length cap] _ hb1.2.2.2 underlying39 rfl hib ?_
 go_wp2_with fail
 refine(cf w1 h1).mono ?_
 rintro e w2 ⟨v2,rfl,m2,hw2⟩
 have hB2:=hB1.trans (hw2.mono hB1.size)
 obtain⟨a2,cap2,rfl,_,_,row2⟩:=m2.rowAt (by unfold maxLen;omega)
 have mF:=m2.2
 clear cf m2 hw2 hb1 h1 hib h
 go_wp2_with (first
  |refine wpList_make_own _ rfl _ _ 59 rfl w2.heap.size 5 i0 (.int .u8 0) 1 underlying59 hi hz0 hz1 .i64 .i64 _ (zs.length+F.length) rfl rfl ?d1 ?d2 ?d3 ?d4 ?_)
 case d1=>omega
 case d2=>rw[hz2];omega
 case d3=>unfold maxLen;omega
 case d4=>exact Nat.le_refl _
 intro w3 hown3 hgrow3
 have hb3:Below w2.heap.size w2 w3:=(Below.refl _ _).grown hgrow3 (Nat.le_refl _) (fun k hk=>by cases hk)
 go_wp2_with (at_builtin;refine zac _ rfl _ _ 59 59 rfl w2.heap.size 5 i0 (.int .u8 0) 1 1 underlying59 hi hz0 hz1 hz2 rfl _ 0 [] rfl hown3 (.slice a0 zs.length cap0) zs.length (v8 zs) rfl ((h0.below (hB2.trans (hb3.mono hB2.size))).src cap0) ?c1 ?c2 ?c3 ?_)
 case c1=>unfold maxLen;omega
 case c2=>omega
 case c3=>exact hb3.size
 intro v4 w4 hown4 hgrow4
 have hb4:=zau hb3 hb3.size hown3 hgrow4
 have hown4':w4.ownsRow w2.heap.size 5 1 v4 zs.length (v8 zs):=by simpa using hown4
 obtain⟨b4,cp4,rfl⟩:∃b cp,v4=.slice b zs.length cp:=by
  rcases hown4'.2 with⟨rfl,h0⟩|⟨g,cp,cur,rfl,_⟩
  ·exact⟨none,0,by rw[h0]⟩
  ·exact⟨_,_,rfl⟩
 clear hown3 hgrow3 hown4 hgrow4 hb3
 go_wp2_with (at_builtin;refine zac _ rfl _ _ 59 59 rfl w2.heap.size 5 i0 (.int .u8 0) 1 1 underlying59 hi hz0 hz1 hz2 rfl _ zs.length (v8 zs) rfl hown4' (.slice a2 F.length cap2) F.length (v8 F) rfl ((row2.below hb4).src cap2) ?c1 ?c2 ?c3 ?_)
 case c1=>unfold maxLen;omega
 case c2=>omega
 case c3=>exact hb4.size
 intro v5 w5 hown5 hgrow5
 have hb5:=zau hb4 hb4.size hown4' hgrow5
 go_wp2_with fail
 go_ret
 refine⟨_,rfl,?_,hB2.trans (hb5.mono hB2.size)⟩
 have hm:=Mine.mk' (zs++F) hown5 (by simp) (by simp[v8]) (by
  intro z hz'
  rcases List.mem_append.1 hz' with hz'|hz'
  ·exact h0.2.1 z hz'
  ·exact mF z hz')
 exact hm.mono' hB2.size
open Go Go.RowKit
section
variable {P : Program} {ops : Array Oper} {Q : Exit → Act → World → Prop}
structure Pl (P:Program) (ops:Array Oper) (Q:Exit→Act→World→Prop) (l:List Oper) (a:Act) (w:World):Prop where
 out:wpList P ops Q l a w
theorem zb {id:Nat} {a:Act} {w:World} (h:Pl P ops Q ops.toList a w):(Code.region id ops false).wp P Q a w:=wp_region_list h.out
theorem za {a:Act} {w:World} (h:Q .normal a w):Pl P ops Q [] a w:=⟨wpList_nil h⟩
theorem zis {o:Oper} {rest:List Oper} {d:Option Nat} {v:Value} {a:Act} {w:World} (hw:Region.wanted o (yielded ops a.tmps)=true) (hy:(execOp a.eval o).run P w=.ok (.value v) w) (hd:o.dst=d)
  (h:Pl P ops Q rest (a.put d v) w):Pl P ops Q (o::rest) a w:=by
 subst hd
 refine⟨wpList_step fun K hK=>?_⟩
 rw[if_pos hw]
 unfold Oper.wp
 rw[hy]
 exact hK _ _ h.out
theorem pl_t (d:Nat) (v:Value) {o:Oper} {rest:List Oper} {a:Act} {w:World} (hw:Region.wanted o (yielded ops a.tmps)=true) (hy:(execOp a.eval o).run P w=.ok (.value v) w) (hd:o.dst=some d) (h:Pl P ops Q rest (a.put (some d) v) w):Pl P ops Q (o::rest) a w:=zis hw hy hd h
theorem zL {o:Oper} {rest:List Oper} {d:Option Nat} {a:Act} {w:World} (hw:Region.wanted o (yielded ops a.tmps)=false) (hd:o.dst=d)
  (h:Pl P ops Q rest (a.put d undef) w):Pl P ops Q (o::rest) a w:=by
 subst hd
 refine⟨wpList_step fun K hK=>?_⟩
 rw[if_neg (by simp[hw])]
 exact hK _ _ h.out
theorem zj {o:Oper} {rest:List Oper} {d:Option Nat} {v:Value} {a:Act} {w w':World} (hw:Region.wanted o (yielded ops a.tmps)=true) (hy:(execOp a.eval o).run P w=.ok (.value v) w') (hd:o.dst=d)
  (h:Pl P ops Q rest (a.put d v) w'):Pl P ops Q (o::rest) a w:=by
 subst hd
 refine⟨wpList_step fun K hK=>?_⟩
 rw[if_pos hw]
 unfold Oper.wp
 rw[hy]
 exact hK _ _ h.out
theorem ze {o:Oper} {rest:List Oper} {d:Option Nat} {f:FuncId} {args:Array Value} {a:Act} {w:World} (hw:Region.wanted o (yielded ops a.tmps)=true) (hy:(execOp a.eval o).run P w=.ok (.enter f args) w) (hd:o.dst=d)
  (h:Calls P f args w fun e w'=>∃v,e=.returned v∧Pl P ops Q rest (a.put d v) w'):Pl P ops Q (o::rest) a w:=by
 subst hd
 refine⟨wpList_step fun K hK=>?_⟩
 rw[if_pos hw]
 unfold Oper.wp
 rw[hy]
 refine h.mono ?_
 rintro e w' ⟨v,rfl,hk⟩
 exact hK _ _ hk.out
theorem zhN (w:World) (p:Addr) (ty:TypeId) (v:Value) (d:TypeDesc) (hc:w.cell? p=some v) (hu:P.underlying ty=some d) (hd:d.isRow=false):(loadVar ty p).run P w=.ok v w:=by
 have hagg:(isAgg ty).run P w=.ok false w:=by
  unfold isAgg
  rw[Sem.run_bind,run_underlying hu w]
  cases d<;>simp_all
 simp[loadVar,Sem.run_bind,hagg,load,Sem.run,hc]
theorem zg {o:Oper} {a:Act} {w:World} {ty:TypeId} {x:Operand} (ho:o.op=.load ty x) {p:Addr} (hx:a.eval x=.pointer (some p)) {v:Value} {d:TypeDesc} (hc:w.cell? p=some v) (hu:P.underlying ty=some d) (hd:d.isRow=false):(execOp a.eval o).run P w=.ok (.value v) w:=by
 unfold execOp
 simp only[ho,hx,Instr.loadAt,Instr.sureAddr,Sem.run_bind,Sem.run_pure,Result.andThen_ok,zhN w p ty v d hc hu hd]
end
end Go.Proofs.YtcbpbkefggekmaaGreatDoor
namespace Go.Proofs.YtcbpbkefggekmaaGreatDoor
open Go.RowKit
open Sha Tal
set_option linter.unusedVariables false
set_option linter.unusedSimpArgs false
theorem zp {P:Program} {op:Oper} {a:Act} {ty:TypeId} {x:Operand} (ho:op.op=.load ty x) {b o:Nat} (hx:a.eval x=.pointer (some ⟨b,o,none⟩)) {cs:List Value} {d:TypeDesc} {w:World} (hr:w.rangeAt b o cs) (hu:P.underlying ty=some d) (hd:d.isRow=true) (hi:(P.info? ty).map (·.size)=some cs.length):(execOp a.eval op).run P w=.ok (.value (.agg cs.toArray)) w:=
 zdy ho hx (run_loadVar_mid w b o ty cs d hr hu hd hi)
theorem zn {P:Program} {o:Oper} {a:Act} {w:World} {ty:TypeId} {x y:Operand} {b off:Nat} {cs:Array Value} (ho:o.op=.store ty x y) (hx:a.eval x=.pointer (some ⟨b,off,none⟩)) (hy:a.eval y=.agg cs) (ht:w.there b off cs.size) (hi:(P.info? ty).map (·.size)=some cs.size) (h1:cs.all (·.oneCell')=true):(execOp a.eval o).run P w=.ok .skip (w.setCells b off cs.toList):=
 zbg ho hx hy (run_storeVar_mid w b off ty cs ht hi h1)
theorem zr {P:Program} {o:Oper} {a:Act} {w:World} {t:TypeId} {z:Value} (ho:o.op=.alloc t) (hz:(zeroValue t).run P w=.ok z w):(execOp a.eval o).run P w=.ok (.value (.pointer (some ⟨w.heap.size,0,none⟩))) (w.alloc (.cells z.cells t)):=by
 unfold execOp
 simp[ho,hz,Instr.alloc,newVar,newRow]
section
variable {P : Program} {ops : Array Oper} {Q : Exit → Act → World → Prop}
theorem zf {o:Oper} {rest:List Oper} {a:Act} {w w':World} (hw:Region.wanted o (yielded ops a.tmps)=true) (hy:(execOp a.eval o).run P w=.ok .skip w') (hd:o.dst=none)
  (h:Pl P ops Q rest a w'):Pl P ops Q (o::rest) a w:=by
 refine⟨wpList_step fun K hK=>?_⟩
 rw[if_pos hw]
 unfold Oper.wp
 rw[hy,Oper.upon_skip,hd]
 exact hK _ _ h.out
end
theorem zm (w:World) (arr:Array Value) (t:TypeId) {n:Nat} (h:arr.size=n):(w.alloc (.cells arr t)).there w.heap.size 0 n:=h▸zK w arr t
theorem zo {cs:List Value} (h:∀v∈cs,v.oneCell'=true):cs.toArray.all (·.oneCell')=true:=by
 rw[Array.all_eq_true_iff_forall_mem]
 intro v hv
 exact h v (by simpa using hv)
def WrOn (X:Nat) (v:Value) (zs bs:List Int) (w:World) (e:Ending) (w':World):Prop:=∃v',e=.returned (.tuple #[])∧WrAt w' X v' (zs++bs) false∧Off (WrF X v) w w'∧RowOn w v v'
theorem zfF {zs:List Int} {n:Nat} (h:zs.length+n≤4194304):fullB false (n:Int) zs=false:=by
 unfold fullB
 rw[Bool.false_or]
 exact decide_eq_false (by omega)
theorem zih (X:Nat) (v:Value) (zs:List Int) (a:Option Addr) (cap:Nat) (bs:List Int) (w:World) (h:WrAt w X v zs false) (hr:RowAt w a bs) (hne:bs=[]∨∀x,a=some x→x.block≠X) (hl:zs.length+bs.length≤4194304):
  Calls prog 93 #[.pointer (some ⟨X,0,none⟩),.slice a bs.length cap] w fun e w'=>WrOn X v zs bs w e w':=by
 have c:=zdj X v zs false a cap bs w h hr hne (by omega)
 rw[zfF hl,zbH]at c
 exact c.mono (fun e w' ⟨v',q1,q2,q3,q4⟩=>⟨v',q1,q2,q3,q4⟩)
theorem zd1:∀(ns:List Int) (zs:List Int),zs.length+(ns.flatMap putL).length≤4194304→wrN (zs,false) ns=(zs++ns.flatMap putL,false)
  |[],zs,_=>by simp[wrN]
  |n::ns,zs,h=>by
    simp only[List.flatMap_cons,List.length_append]at h
    have e:wrS (zs,false) (putL n)=(zs++putL n,false):=by
      unfold wrS
      simp only
      rw[zfF (by omega),zbH]
    show wrN (wrS (zs,false) (putL n)) ns=_
    rw[e,zd1 ns (zs++putL n) (by rw[List.length_append];omega),List.flatMap_cons,List.append_assoc]
theorem ze7 (X:Nat) (v:Value) (zs:List Int) (ns:List Int) (arr:Array Value) (n:Nat) (w:World) (h:WrAt w X v zs false) (ha:arr=(ns.map (Value.int .i64)).toArray) (hc:ns.length=n) (hn10:n≤10) (hn:∀n∈ns,n≤9223372036854775807) (hl:zs.length+(ns.flatMap putL).length≤4194304):
  Calls prog 87 #[.pointer (some ⟨X,0,none⟩),.slice (some ⟨w.heap.size,0,none⟩) n n] (w.alloc (.cells arr 3)) fun e w'=>WrOn X v zs (ns.flatMap putL) w e w':=by
 have c:=ze8 X v (zs,false) ns arr n w h ha hc hn10 hn (by show zs.length≤4194304;omega)
 rw[zd1 ns zs hl]at c
 exact c.mono (fun e w' ⟨v',q1,q2,q3,q4⟩=>⟨v',q1,q2,q3,q4⟩)
theorem WrOn.next {X:Nat} {v v1:Value} {zs bs cs:List Int} {w w1 w2:World} {e:Ending} (hO:Off (WrF X v) w w1) (hR:RowOn w v v1) (h:WrOn X v1 (zs++bs) cs w1 e w2):WrOn X v zs (bs++cs) w e w2:=by
 obtain⟨v',q1,q2,q3,q4⟩:=h
 have T:=zaO hO hR q3 q4
 exact⟨v',q1,by rw[←List.append_assoc];exact q2,T.1,T.2⟩
theorem zd0 {X:Nat} {v:Value} {w w1 w2:World} {zs:List Int} {lg:Bool} (h:WrAt w X v zs lg) (hs:w.heap.size<w1.heap.size) (hO:Off (WrF X v) w1 w2) {o:Nat} {cs:List Value} (r:w1.rangeAt w.heap.size o cs):w2.rangeAt w.heap.size o cs:=zbD r (zdX h hs hO)
theorem zdZ {X n:Nat} {v:Value} {w w':World} {zs:List Int} {lg:Bool} (h:WrAt w X v zs lg) (hn:n≤X) (hO:Off (WrF X v) w w'):Below n w w':=hO.below (by have:=h.lt;omega) (fun b hb hf=>by
 rcases hf with hf|hf
 ·omega
 ·have:=(h.me.from _ hf).1;omega)
theorem zeI (w:World) (v:Value):RowOn w v v:=fun g hg=>.inl hg
theorem WrOn.from {X:Nat} {v:Value} {zs bs:List Int} {w w1:World} {e:Ending} {w':World} (hb:Below w.heap.size w w1) (h:WrOn X v zs bs w1 e w'):WrOn X v zs bs w e w':=by
 obtain⟨v',q1,q2,q3,q4⟩:=h
 have T:=zaO (Off.of_below hb) (zeI w v) q3 q4
 exact⟨v',q1,q2,T.1,T.2⟩
theorem zhP (x:Int) (w:World):(Instr.buildSlice 207 1 #[(0,.int .i64 x)]).run prog w=.ok (.slice (some ⟨w.heap.size,0,none⟩) 1 1) (w.alloc (.cells #[.int .i64 x] 3)):=by kernel_rfl
theorem zhO (x y:Int) (w:World):(Instr.buildSlice 207 2 #[(0,.int .i64 x),(1,.int .i64 y)]).run prog w=.ok (.slice (some ⟨w.heap.size,0,none⟩) 2 2) (w.alloc (.cells #[.int .i64 x,.int .i64 y] 3)):=by kernel_rfl
theorem zj0 {P:Program} {o:Oper} {a:Act} {w w':World} {t:TypeId} {x:Operand} {u r:Value} (ho:o.op=.buildSlice t 1 #[(0,x)]) (hx:a.eval x=u) (hr:(Instr.buildSlice t 1 #[(0,u)]).run P w=.ok r w'):(execOp a.eval o).run P w=.ok (.value r) w':=by
 unfold execOp
 simp[ho,hx,hr]
theorem zjZ {P:Program} {o:Oper} {a:Act} {w w':World} {t:TypeId} {x y:Operand} {u v r:Value} (ho:o.op=.buildSlice t 2 #[(0,x),(1,y)]) (hx:a.eval x=u) (hy:a.eval y=v) (hr:(Instr.buildSlice t 2 #[(0,u),(1,v)]).run P w=.ok r w'):(execOp a.eval o).run P w=.ok (.value r) w':=by
 unfold execOp
 simp[ho,hx,hy,hr]
def sgL (g:Sg):List Int:=putL g.n++g.t
def sgsL (xs:List Sg):List Int:=putL xs.length++xs.flatMap sgL
def evL (g:Ev):List Int:=putL g.n++(textL g.s++g.t)
def evsL (xs:List Ev):List Int:=putL xs.length++xs.flatMap evL
def vtL (x:Vt):List Int:=([x.k,x.e,x.v,x.s].flatMap putL)++x.d
def BRq.of (r:Rq):BRq:=⟨r.c,r.n,r.s,r.t⟩
def ctL (x:Vt) (xs:List Sg):List Int:=vtL x++sgsL xs
def hdL (h:Hd):List Int:=batL h.q (h.rs.xs.map BRq.of)++ctL h.vt h.sg.xs
def hdsL (xs:List Hd):List Int:=putL xs.length++xs.flatMap hdL
end Go.Proofs.YtcbpbkefggekmaaGreatDoor
namespace Go.Proofs.YtcbpbkefggekmaaGreatDoor
open Go.RowKit
open Sha Tal
set_option linter.unusedVariables false
set_option linter.unusedSimpArgs false
theorem iszEv:(prog.info? 25).map (·.size)=some 18:=by kernel_rfl
theorem iszSg:(prog.info? 133).map (·.size)=some 17:=by kernel_rfl
theorem zeroSg:∃z:List Value,z.length=17∧∀w:World,(zeroValue 133).run prog w=.ok (.agg z.toArray) w:=⟨[.int .i64 0]++v8 (List.replicate 16 0),by decide,fun w=>by kernel_rfl⟩
theorem zeroEv:∃z:List Value,z.length=18∧∀w:World,(zeroValue 25).run prog w=.ok (.agg z.toArray) w:=⟨[.int .i64 0,.string ⟨#[]⟩]++v8 (List.replicate 16 0),by decide,fun w=>by kernel_rfl⟩
open Go.RowKit
open Sha Tal
def Hd.zero:Hd:=⟨false,⟨none,0,[]⟩,Vt.zero,⟨none,0,[]⟩⟩
def HdsAt (w:World) (x:Sl Hd):Prop:=x.At HdE w∧∀h∈x.xs,h.At w
theorem HdsAt.below {w w':World} {x:Sl Hd} (k:HdsAt w x) (hb:Below w.heap.size w w'):HdsAt w' x:=⟨k.1.below hb,fun h hh=>(k.2 h hh).below hb⟩
theorem zez {α:Type} {B:α→α→Bool}:∀{xs ys:List α},xs.length≠ys.length→sameL B xs ys=false
  |[],[],h=>absurd rfl h
  |_::_,[],_=>rfl
  |[],_::_,_=>rfl
  |_::xs,_::ys,h=>by
    have:=zez (B:=B) (xs:=xs) (ys:=ys) (fun e=>h (by simp[e]))
    simp[sameL,this]
theorem zeB {α:Type} [Inhabited α] {B:α→α→Bool}:∀{xs ys:List α},xs.length=ys.length→(∀i,i<xs.length→B (xs.getD i default) (ys.getD i default)=true)→sameL B xs ys=true
  |[],[],_,_=>rfl
  |x::xs,y::ys,h,k=>by
    have h0:=k 0 (by simp)
    have:=zeB (B:=B) (xs:=xs) (ys:=ys) (by simpa using h) (fun i hi=>by have:=k (i+1) (by simp;omega);simpa using this)
    simp only[List.getD_cons_zero]at h0
    simp[sameL,this,h0]
theorem zey {α:Type} [Inhabited α] {B:α→α→Bool}:∀{xs ys:List α} (i:Nat),i<xs.length→xs.length=ys.length→B (xs.getD i default) (ys.getD i default)=false→sameL B xs ys=false
  |x::xs,y::ys,0,_,_,k=>by
    simp only[List.getD_cons_zero]at k
    simp[sameL,k]
  |x::xs,y::ys,i+1,hi,h,k=>by
    have:=zey (B:=B) (xs:=xs) (ys:=ys) i (by simpa using hi) (by simpa using h) (by simpa using k)
    simp[sameL,this]
theorem zka (x y:Sl Hd) (w:World) (hx:HdsAt w x) (hy:HdsAt w y):
  Calls prog 163 #[x.val,y.val,.func (.func 164) #[] #[]] w fun e w'=>e=.returned (.bool (sameL Hd.B x.xs y.xs))∧Below w.heap.size w w':=by
 obtain⟨a,cap,xs⟩:=x
 obtain⟨a',cap',ys⟩:=y
 have hml:xs.length≤maxLen:=hx.1.1
 have hml':ys.length≤maxLen:=hy.1.1
 unfold maxLen at hml hml'
 simp only[Sl.val]
 by_cases hlen:xs.length=ys.length
 rotate_left
 ·rw[zez hlen]
  have e0:((xs.length:Int)==ys.length)=false:=by simp;omega
  clear hlen
  go_enter func163,ntmps163
  go_wp2
  go_ret
  exact⟨rfl,Below.refl _ _⟩
 ·have e0:((xs.length:Int)==ys.length)=true:=by simp;omega
  have HL:=hide hlen
  clear hlen
  obtain⟨sb,hsb⟩:∃sb,Hid (sameL Hd.B xs ys=sb):=⟨_,hide rfl⟩
  rw[hsb.out]
  go_enter func163,ntmps163
  go_wp2
  go_loopw [17] (fun iv wr'=>∃k:Nat,k≤xs.length∧iv=.int .i64 (k:Int)∧Hid (∀j,j<k→Hd.B (xs.getD j default) (ys.getD j default)=true)∧Below w.heap.size w wr') (fun iv _=>xs.length - (intOf iv).toNat)
  case atStart=>exact⟨0,by omega,rfl,hide (fun j hj=>absurd hj (by omega)),Below.refl _ _⟩
  case round=>
   clear e0
   rename ((xs.length:Int) !=(ys.length:Int))=false=>hne0
   clear hne0
   obtain⟨k,hk,rfl,HM,hB⟩:=hrel
   by_cases hlt:k<xs.length
   ·have k1:(k:Int)<xs.length:=by omega
    have hlt':k<ys.length:=by have:=HL.out;omega
    have k1':(k:Int)<ys.length:=by omega
    obtain⟨b,off,rfl,hb,hre⟩:=RowsAt.elem (hx.1.below hB) k hlt
    obtain⟨b',off',rfl,hb',hre'⟩:=RowsAt.elem (hy.1.below hB) k hlt'
    have hre:wr.rangeAt b (off+k*39) xs[k].cells:=hre
    have hre':wr.rangeAt b' (off'+k*39) ys[k].cells:=hre'
    have hgx:xs.getD k default=xs[k]:=by rw[List.getD_eq_getElem?_getD,List.getElem?_eq_getElem hlt];rfl
    have hgy:ys.getD k default=ys[k]:=by rw[List.getD_eq_getElem?_getD,List.getElem?_eq_getElem hlt'];rfl
    have okx:xs[k].vt.ok:=hx.1.2.1 _ (List.getElem_mem hlt)
    have oky:ys[k].vt.ok:=hy.1.2.1 _ (List.getElem_mem hlt')
    have atx:=(hx.2 _ (List.getElem_mem hlt)).below hB
    have aty:=(hy.2 _ (List.getElem_mem hlt')).below hB
    obtain⟨gx,hX⟩:∃g,Hid (xs[k]=g):=⟨_,hide rfl⟩
    obtain⟨gy,hY⟩:∃g,Hid (ys[k]=g):=⟨_,hide rfl⟩
    rw[hX.out]at hre hgx okx atx
    rw[hY.out]at hre' hgy oky aty
    clear hX hY
    have HT:Hid (Hd.B gx gy=true→∀j,j<k+1→Hd.B (xs.getD j default) (ys.getD j default)=true):=hide (fun hp j hj=>by
     by_cases e:j=k
     ·subst e;rw[hgx,hgy];exact hp
     ·exact HM.out j (by omega))
    have HF:Hid (Hd.B gx gy=false→sb=false):=hide (fun hp=>by
     rw[←hsb.out]
     exact zey k hlt HL.out (by rw[hgx,hgy];exact hp))
    have lu:gx.cells.length=39:=HdE.len _ okx
    have lu':gy.cells.length=39:=HdE.len _ oky
    have ou:gx.cells.toArray.all (·.oneCell')=true:=all_oneCell_toArray (HdE.one gx)
    have ou':gy.cells.toArray.all (·.oneCell')=true:=all_oneCell_toArray (HdE.one gy)
    have cs:=fun(w0:World) (hb:Below wr.heap.size wr w0)=>zhD gx gy w0 okx oky (atx.below hb) (aty.below hb)
    generalize gx.cells=u at *
    generalize gy.cells=u' at *
    generalize Hd.B gx gy=hb1 at *
    clear hgx hgy HM okx oky atx aty
    have iu:(prog.info? 113).map (·.size)=some u.length:=by rw[lu];exact iszH
    have iu':(prog.info? 113).map (·.size)=some u'.length:=by rw[lu'];exact iszH
    have iA:(prog.info? 113).map (·.size)=some u.toArray.size:=by rw[List.size_toArray,lu];exact iszH
    have iA':(prog.info? 113).map (·.size)=some u'.toArray.size:=by rw[List.size_toArray,lu'];exact iszH
    have zl:Hd.zero.cells.toArray.size=39:=rfl
    obtain⟨r5,hB5,hs5,_⟩:=zA wr Hd.zero.cells.toArray 113 u (by rw[lu];rfl)
    have hT5:(wr.alloc (.cells Hd.zero.cells.toArray 113)).there wr.heap.size 0 u.toArray.size:=by
     have:=zK wr Hd.zero.cells.toArray 113
     rw[zl]at this
     rw[show u.toArray.size=39 by simpa using lu]
     exact this
    go_upto_region 6 with(first|(refine wpList_load_mid rfl 113 _ rfl _ _ rfl u _ hre underlying113 rfl iu ?_)|(refine wpList_store_mid rfl 113 _ _ rfl _ _ u.toArray rfl rfl hT5 iA ou ?_))
    go_name_world w5 hw5
    rw[show(wr.alloc (.cells Hd.zero.cells.toArray 113)).setCells wr.heap.size 0 u=w5 from hw5]at r5 hB5 hs5
    have hs5':wr.heap.size<w5.heap.size:=by omega
    clear hw5 hs5 hT5 hre
    have hre5':=zd hre' hB5 hb'
    obtain⟨r6,hB6,hs6,_⟩:=zA w5 Hd.zero.cells.toArray 113 u' (by rw[lu'];rfl)
    have hT6:(w5.alloc (.cells Hd.zero.cells.toArray 113)).there w5.heap.size 0 u'.toArray.size:=by
     have:=zK w5 Hd.zero.cells.toArray 113
     rw[zl]at this
     rw[show u'.toArray.size=39 by simpa using lu']
     exact this
    go_upto_region 7 with(first|(refine wpList_load_mid rfl 113 _ rfl _ _ rfl u' _ hre5' underlying113 rfl iu' ?_)|(refine wpList_store_mid rfl 113 _ _ rfl _ _ u'.toArray rfl rfl hT6 iA' ou' ?_))
    go_name_world w6 hw6
    rw[show(w5.alloc (.cells Hd.zero.cells.toArray 113)).setCells w5.heap.size 0 u'=w6 from hw6]at r6 hB6 hs6
    clear hw6 hT6 hre5' hre' hs6
    have r56:=zd r5 hB6 hs5'
    have hBB:=hB5.trans (hB6.mono (by omega))
    have c7:=cs w6 hBB
    have hB7:=hB.trans (hBB.mono hB.size)
    clear cs hB5 hB6 r5 hBB
    go_wp2_with (first|(refine wpList_load_mid rfl 113 _ rfl _ _ rfl u _ r56 underlying113 rfl iu ?_)|(refine wpList_load_mid rfl 113 _ rfl _ _ rfl u' _ r6 underlying113 rfl iu' ?_))
    refine c7.mono ?_
    rintro e8 w8 ⟨rfl,hb8⟩
    have hB8:=hB7.trans (hb8.mono hB7.size)
    clear c7 hb8 r56 r6 hB7
    cases hb1
    ·have HF':=HF.out rfl
     clear HF HT hsb
     go_wp2
     go_ret
     exact⟨by rw[HF'];rfl,hB8⟩
    ·have HT':=hide (HT.out rfl)
     clear HF HT
     go_wp2
     go_roundw
     case rel=>exact⟨k+1,by omega,by go_num,HT',hB8⟩
     case measure=>simp[intOf];omega
   ·have k1:¬(k:Int)<xs.length:=by omega
    have HE:Hid (sb=true):=hide (by
     rw[←hsb.out]
     exact zeB HL.out (fun j hj=>HM.out j (by omega)))
    clear HM hsb
    go_wp2
    go_ret
    exact⟨by rw[HE.out];rfl,hB⟩
open Go.RowKit
open Sha Tal
def chgL (a b c:Int) (x:Sl Hd):Array Value:=#[.int .i64 a,.int .i64 b,.int .i64 c,x.val]
def chgB (a b c:Int) (x:Sl Hd) (a' b' c':Int) (y:Sl Hd):Bool:=((a==a')&&((b==b')&&(c==c')))&&sameL Hd.B x.xs y.xs
theorem zhH (a b c:Int) (x:Sl Hd) (a' b' c':Int) (y:Sl Hd) (w:World) (hx:HdsAt w x) (hy:HdsAt w y):
  Calls prog 131 #[.agg (chgL a b c x),.agg (chgL a' b' c' y)] w fun e w'=>e=.returned (.bool (chgB a b c x a' b' c' y))∧Below w.heap.size w w':=by
 have hB:Below w.heap.size w ((w.alloc (.cells (chgL a b c x) 46)).alloc (.cells (chgL a' b' c' y) 46)):=((Below.refl _ w).alloc (Nat.le_refl _) _).alloc (by simp) _
 have ce:=zka x y _ (hx.below hB) (hy.below hB)
 unfold chgB
 unfold chgL at hB ce ⊢
 generalize sameL Hd.B x.xs y.xs=sb at *
 obtain⟨xa,xc,xs⟩:=x
 obtain⟨ya,yc,ys⟩:=y
 simp only[Sl.val]at hB ce ⊢
 clear hx hy
 by_cases h1:a=a'
 rotate_left
 ·rw[show(a==a')=false from beq_eq_false_iff_ne.2 h1]
  have n1:(a !=a')=true:=bne_iff_ne.2 h1
  clear h1 ce
  go_enter func131,ntmps131
  go_wp2
  go_ret
  exact⟨rfl,hB⟩
 ·subst h1
  by_cases h2:b=b'
  rotate_left
  ·rw[show(b==b')=false from beq_eq_false_iff_ne.2 h2]
   have n1:(b !=b')=true:=bne_iff_ne.2 h2
   clear h2 ce
   go_enter func131,ntmps131
   go_wp2
   go_ret
   exact⟨by simp,hB⟩
  ·subst h2
   by_cases h3:c=c'
   rotate_left
   ·rw[show(c==c')=false from beq_eq_false_iff_ne.2 h3]
    have n1:(c !=c')=true:=bne_iff_ne.2 h3
    clear h3 ce
    go_enter func131,ntmps131
    go_wp2
    go_ret
    exact⟨by simp,hB⟩
   ·subst h3
    have E:(((a==a)&&((b==b)&&(c==c)))&&sb)=sb:=by simp
    rw[E]
    clear E
    go_enter func131,ntmps131
    go_wp2_with fail
    refine ce.mono ?_
    rintro e2 w2 ⟨rfl,hb2⟩
    have hB2:=hB.trans (hb2.mono hB.size)
    clear ce hb2
    go_wp2
    go_ret
    exact⟨rfl,hB2⟩
open Go.RowKit
open Sha Tal
set_option linter.unusedVariables false
set_option linter.unusedSimpArgs false
theorem zh3 {w:World} {a:Option Addr} {xs:List Rq} (h:RowsAt RqE w a xs):ReqsAt w a (xs.map BRq.of):=by
 refine⟨by rw[List.length_map];exact h.1,fun r hr=>?_,?_⟩
 ·obtain⟨y,hy,rfl⟩:=List.mem_map.1 hr
  have k:y.ok:=h.2.1 y hy
  exact⟨k.tl,k.tb,k.sl,k.cl,k.ch,k.nl,k.nh⟩
 ·rcases h.2.2 with q|⟨b,off,rfl,h1,h2⟩
  ·exact .inl (by rw[q];rfl)
  ·refine .inr ⟨b,off,rfl,h1,?_⟩
   have e:flatR (xs.map BRq.of)=xs.flatMap RqE.f:=by
    unfold flatR
    rw[List.flatMap_map]
    rfl
   rw[e]
   exact h2
theorem iszBa:(prog.info? 39).map (·.size)=some 2:=by kernel_rfl
theorem iszCe:(prog.info? 50).map (·.size)=some 37:=by kernel_rfl
theorem iszVo:(prog.info? 43).map (·.size)=some 36:=by kernel_rfl
theorem iszCh:(prog.info? 46).map (·.size)=some 4:=by kernel_rfl
theorem zu (w:World) (q:List Value) (t:TypeId):Below w.heap.size w (w.alloc (.cells q.toArray t))∧(w.alloc (.cells q.toArray t)).rangeAt w.heap.size 0 q∧w.heap.size<(w.alloc (.cells q.toArray t)).heap.size:=
 ⟨(Below.refl _ _).alloc (Nat.le_refl _) _,by simpa using zy w q.toArray t,by simp⟩
theorem zg0 (X:Nat) (v:Value) (zs:List Int) (q:Bool) (x:Sl Rq) (w:World) (hx:x.At RqE w) (h:WrAt w X v zs false) (hn:x.xs.length≤200) (hs:∀r∈x.xs,r.s.size≤4000) (hl:zs.length+(batL q (x.xs.map BRq.of)).length≤4194304):Calls prog 88 #[.pointer (some ⟨X,0,none⟩),.agg #[.bool q,x.val]] w fun e w'=>WrOn X v zs (batL q (x.xs.map BRq.of)) w e w':=by
 obtain⟨a,cap,xs⟩:=x
 simp only[Sl.val]at*
 have hx:RowsAt RqE w a xs:=hx
 have cB:=fun w' (hb:Below w.heap.size w w')=>zkE none 0 [] q a cap (xs.map BRq.of) w' (zaR w') (by simp) (zh3 (hx.below hb)) (by rw[List.length_map];exact hn) (fun r hr=>by
  obtain⟨y,hy,rfl⟩:=List.mem_map.1 hr
  exact hs y hy)
 simp only[List.length_map,List.nil_append,List.length_nil]at cB
 unfold batV at cB
 generalize batL q (xs.map BRq.of)=bs at *
 obtain⟨hB1,hR1,hs1⟩:=zu w [.bool q,.slice a xs.length cap] 39
 go_enter func88,ntmps88
 go_upto_region 1 with fail
 obtain⟨w1,hw1⟩:∃W,w.alloc (.cells ([.bool q,.slice a xs.length cap]).toArray 39)=W:=⟨_,rfl⟩
 rw[hw1]at hB1 hR1 hs1 ⊢
 have h1:=h.below hB1
 have hXl:=h.lt
 clear hw1
 try simp only[Act.put]
 refine zb ?_
 refine pl_t 4 (?_) (by rfl) ?_ rfl ?_
 rotate_left
 ·go_simp
  try with_reducible rfl
 simp only[nz]
 refine pl_t 5 (.agg [.bool q,.slice a xs.length cap].toArray) (by rfl) (zp rfl rfl hR1 underlying39 rfl iszBa) rfl ?_
 simp only[nz]
 refine ze (d:=some 6) (by rfl) (by go_simp;first|done|exact⟨rfl,rfl⟩|with_reducible rfl) rfl ?_
 refine(cB w1 hB1).mono ?_
 rintro _ w2 ⟨v2,rfl,hM,hB2⟩
 refine⟨_,rfl,?_⟩
 simp only[nz]
 obtain⟨a2,cap2,rfl,_,_,hrw⟩:=hM.rowAt (by unfold maxLen;omega)
 have hMf:=hM.fresh
 have h2:=h1.below hB2
 have c2:=zih X v zs a2 cap2 bs w2 h2 hrw (.inr (fun x hx=>by have:=hMf x hx;have:=h1.lt;omega)) hl
 clear hM hMf hrw cB
 refine ze (d:=some 7) (by rfl) (by go_simp;first|done|exact⟨rfl,rfl⟩|with_reducible rfl) rfl ?_
 refine(c2).mono ?_
 rintro _ w3 hfin
 have HF:=hide (WrOn.from (hB1.trans (hB2.mono hB1.size)) hfin)
 obtain⟨v3,rfl,g1,g2,g3⟩:=hfin
 refine⟨_,rfl,?_⟩
 simp only[nz]
 refine za ?_
 go_wp2_with fail
 go_end0
 exact HF.out
open Go.RowKit
open Sha Tal
theorem zd2 {P:Program} {ops:Array Oper} {rest:List Oper} {op:Oper} {a:Act} {w:World} {Q:Exit→Act→World→Prop} (hgd:Region.wanted op (yielded ops a.tmps)=true) (t t2:TypeId) (x y:Operand) (ho:op.op=.binOp .neq t x y t2) (sa sb:ByteArray) (hx:a.eval x=.string sa) (hy:a.eval y=.string sb) (b:Bool) (hb:(sa.toList !=sb.toList)=b)
  (h:wpList P ops Q rest (a.put op.dst (.bool b)) w):wpList P ops Q (op::rest) a w:=
 wpList_step fun K hK=>by
  rw[if_pos hgd]
  unfold Oper.wp execOp
  subst hb
  simp only[ho,hx,hy,binOp_string_neq,Sem.run_bind,Sem.run_pure]
  exact hK _ _ h
structure Mg where
 k:Int
 e:Int
 l:Int
 v:Int
 s:Int
 q:Bool
 rs:Sl Rq
 vt:Vt
 ce:Int
 cl:Int
 cv:Int
 he:Sl Hd
 ne:Sl Ev
 d:List Int
 ct:Vt
 cs:Sl Sg
 st:ByteArray
 sg:Sl Sg
def Mg.ms (m:Mg):Ms:=⟨m.k,m.e,m.l,m.v,m.s,m.q,m.rs.val,m.vt,m.ce,m.cl,m.cv,m.he.val,m.ne.val,m.d,m.ct,m.cs.val,m.st,m.sg.val⟩
structure Mg.ok (m:Mg):Prop where
 vt:m.vt.ok
 ct:m.ct.ok
 dl:m.d.length=32
 db:∀z∈m.d,0≤z∧z<256
theorem Mg.ok.ms {m:Mg} (h:m.ok):m.ms.ok:=⟨h.vt,h.ct,h.dl,h.db,rfl,rfl,rfl,rfl,rfl⟩
structure Mg.At (m:Mg) (w:World):Prop where
 rs:m.rs.At RqE w
 he:HdsAt w m.he
 ne:m.ne.At EvE w
 cs:m.cs.At SgE w
 sg:m.sg.At SgE w
theorem Mg.At.below {m:Mg} {w w':World} (h:m.At w) (hb:Below w.heap.size w w'):m.At w':=⟨h.rs.below hb,h.he.below hb,h.ne.below hb,h.cs.below hb,h.sg.below hb⟩
def Mg.nB (a b:Mg):Bool:=(a.k==b.k)&&((a.e==b.e)&&((a.l==b.l)&&((a.v==b.v)&&(a.s==b.s))))
def Mg.fB (a b:Mg):Bool:=vtB a.vt b.vt&&((a.d==b.d)&&(a.st.toList==b.st.toList))
def Mg.lB (a b:Mg):Bool:=batB a.q a.rs b.q b.rs&&(chgB a.ce a.cl a.cv a.he b.ce b.cl b.cv b.he&&(sameL Ev.B a.ne.xs b.ne.xs&&(certB a.ct a.cs b.ct b.cs&&sameL Sg.B a.sg.xs b.sg.xs)))
def Mg.B (a b:Mg):Bool:=Mg.nB a b&&(Mg.fB a b&&Mg.lB a b)
theorem zi2 (a b:Mg) (w:World) (oa:a.ok) (ob:b.ok) (ha:a.At w) (hb:b.At w):Calls prog 84 #[.agg a.ms.cells.toArray,.agg b.ms.cells.toArray] w fun er w'=>er=.returned (.bool (Mg.B a b))∧Below w.heap.size w w':=by
 obtain⟨hA,hA',hB,hs⟩:=zcW a.ms.cells b.ms.cells 52 w
 obtain⟨W,hW⟩:∃W,Hid ((w.alloc (.cells a.ms.cells.toArray 52)).alloc (.cells b.ms.cells.toArray 52)=W):=⟨_,hide rfl⟩
 rw[hW.out]at hA hA' hB hs
 have M:=oa.ms.at hA
 have M':=ob.ms.at hA'
 have ix:(prog.info? 43).map (·.size)=some a.vt.cells.length:=by rw[oa.vt.len];exact iszV
 have iy:(prog.info? 43).map (·.size)=some b.vt.cells.length:=by rw[ob.vt.len];exact iszV
 have id:(prog.info? 41).map (·.size)=some (v8 a.d).length:=by rw[v8_length,oa.dl];exact iszD
 have id':(prog.info? 41).map (·.size)=some (v8 b.d).length:=by rw[v8_length,ob.dl];exact iszD
 have ic:(prog.info? 50).map (·.size)=some (certL a.ct a.cs).length:=by rw[show(certL a.ct a.cs).length=37 by simp[certL,oa.ct.len]];exact iszC
 have ic':(prog.info? 50).map (·.size)=some (certL b.ct b.cs).length:=by rw[show(certL b.ct b.cs).length=37 by simp[certL,ob.ct.len]];exact iszC
 have hq:=eqInV a.vt b.vt oa.vt.dl ob.vt.dl
 have hq2:=eqInD a.d b.d oa.dl ob.dl
 have gB:=fun w0 k1 k2=>zgh a.q a.rs b.q b.rs w0 k1 k2
 have gC:=fun w0 k1 k2=>zhH a.ce a.cl a.cv a.he b.ce b.cl b.cv b.he w0 k1 k2
 have gN:=fun w0 k1 k2=>zj8 a.ne.a a.ne.cap a.ne.xs b.ne.a b.ne.cap b.ne.xs w0 k1 k2
 have gT:=fun w0 k1 k2=>zex a.ct b.ct a.cs b.cs w0 oa.ct ob.ct k1 k2
 have gS:=fun w0 k1 k2=>zfP a.sg.a a.sg.cap a.sg.xs b.sg.a b.sg.cap b.sg.xs w0 k1 k2
 have a1:=ha.below hB
 have b1:=hb.below hB
 have cK:W.cell? ⟨w.heap.size,0,none⟩=some (.int .i64 a.k):=M.k
 have cE:W.cell? ⟨w.heap.size,1,none⟩=some (.int .i64 a.e):=M.e
 have cL:W.cell? ⟨w.heap.size,2,none⟩=some (.int .i64 a.l):=M.l
 have cV:W.cell? ⟨w.heap.size,3,none⟩=some (.int .i64 a.v):=M.v
 have cS:W.cell? ⟨w.heap.size,4,none⟩=some (.int .i64 a.s):=M.s
 have cQ:W.cell? ⟨w.heap.size,5,none⟩=some (.bool a.q):=M.q
 have cR:W.cell? ⟨w.heap.size,6,none⟩=some (.slice a.rs.a a.rs.xs.length a.rs.cap):=M.rs
 have c1:W.cell? ⟨w.heap.size,43,none⟩=some (.int .i64 a.ce):=M.ce
 have c2:W.cell? ⟨w.heap.size,44,none⟩=some (.int .i64 a.cl):=M.cl
 have c3:W.cell? ⟨w.heap.size,45,none⟩=some (.int .i64 a.cv):=M.cv
 have cH:W.cell? ⟨w.heap.size,46,none⟩=some (.slice a.he.a a.he.xs.length a.he.cap):=M.he
 have cN:W.cell? ⟨w.heap.size,47,none⟩=some (.slice a.ne.a a.ne.xs.length a.ne.cap):=M.ne
 have cT:W.cell? ⟨w.heap.size,117,none⟩=some (.string a.st):=M.st
 have cG:W.cell? ⟨w.heap.size,118,none⟩=some (.slice a.sg.a a.sg.xs.length a.sg.cap):=M.sg
 have rV:W.rangeAt (w.heap.size) 7 a.vt.cells:=M.vt
 have rD:W.rangeAt (w.heap.size) 48 (v8 a.d):=M.d
 have rC:W.rangeAt (w.heap.size) 80 (certL a.ct a.cs):=M.ct
 have cK':W.cell? ⟨w.heap.size+1,0,none⟩=some (.int .i64 b.k):=M'.k
 have cE':W.cell? ⟨w.heap.size+1,1,none⟩=some (.int .i64 b.e):=M'.e
 have cL':W.cell? ⟨w.heap.size+1,2,none⟩=some (.int .i64 b.l):=M'.l
 have cV':W.cell? ⟨w.heap.size+1,3,none⟩=some (.int .i64 b.v):=M'.v
 have cS':W.cell? ⟨w.heap.size+1,4,none⟩=some (.int .i64 b.s):=M'.s
 have cQ':W.cell? ⟨w.heap.size+1,5,none⟩=some (.bool b.q):=M'.q
 have cR':W.cell? ⟨w.heap.size+1,6,none⟩=some (.slice b.rs.a b.rs.xs.length b.rs.cap):=M'.rs
 have c1':W.cell? ⟨w.heap.size+1,43,none⟩=some (.int .i64 b.ce):=M'.ce
 have c2':W.cell? ⟨w.heap.size+1,44,none⟩=some (.int .i64 b.cl):=M'.cl
 have c3':W.cell? ⟨w.heap.size+1,45,none⟩=some (.int .i64 b.cv):=M'.cv
 have cH':W.cell? ⟨w.heap.size+1,46,none⟩=some (.slice b.he.a b.he.xs.length b.he.cap):=M'.he
 have cN':W.cell? ⟨w.heap.size+1,47,none⟩=some (.slice b.ne.a b.ne.xs.length b.ne.cap):=M'.ne
 have cT':W.cell? ⟨w.heap.size+1,117,none⟩=some (.string b.st):=M'.st
 have cG':W.cell? ⟨w.heap.size+1,118,none⟩=some (.slice b.sg.a b.sg.xs.length b.sg.cap):=M'.sg
 have rV':W.rangeAt (w.heap.size+1) 7 b.vt.cells:=M'.vt
 have rD':W.rangeAt (w.heap.size+1) 48 (v8 b.d):=M'.d
 have rC':W.rangeAt (w.heap.size+1) 80 (certL b.ct b.cs):=M'.ct
 unfold chgL at gC
 simp only[Sl.val]at gB gC
 unfold Mg.B Mg.nB Mg.fB Mg.lB
 have A1:=a1.rs
 have A2:=a1.he
 have A3:RowsAt EvE W a.ne.a a.ne.xs:=a1.ne
 have A4:=a1.cs
 have A5:RowsAt SgE W a.sg.a a.sg.xs:=a1.sg
 have B1:=b1.rs
 have B2:=b1.he
 have B3:RowsAt EvE W b.ne.a b.ne.xs:=b1.ne
 have B4:=b1.cs
 have B5:RowsAt SgE W b.sg.a b.sg.xs:=b1.sg
 clear hA hA' M M' oa ob ha hb a1 b1
 generalize batB a.q a.rs b.q b.rs=b1 at *
 generalize chgB a.ce a.cl a.cv a.he b.ce b.cl b.cv b.he=b2 at *
 generalize sameL Ev.B a.ne.xs b.ne.xs=b3 at *
 generalize certB a.ct a.cs b.ct b.cs=b4 at *
 generalize sameL Sg.B a.sg.xs b.sg.xs=b5 at *
 generalize a.ms.cells=q at *
 generalize b.ms.cells=q' at *
 generalize hgu:a.vt.cells=u at *
 generalize hgu':b.vt.cells=u' at *
 generalize hgd:v8 a.d=ud at *
 generalize hgd':v8 b.d=ud' at *
 generalize certL a.ct a.cs=uc at *
 generalize certL b.ct b.cs=uc' at *
 generalize vtB a.vt b.vt=vb at *
 generalize (a.d==b.d)=db at *
 clear hgu hgu' hgd hgd'
 obtain⟨k,e,l,v,s,qq,⟨ra,rc,rx⟩,vt,ce,cl,cv,⟨ha,hc,hx⟩,⟨na,nc,nx⟩,d,ct,cs,st,⟨ga,gc,gx⟩⟩:=a
 obtain⟨k',e',l',v',s',qq',⟨ra',rc',rx'⟩,vt',ce',cl',cv',⟨ha',hc',hx'⟩,⟨na',nc',nx'⟩,d',ct',cs',st',⟨ga',gc',gx'⟩⟩:=b
 simp only at *
 by_cases h_k:k=k'
 rotate_left
 ·rw[show(k==k')=false from beq_eq_false_iff_ne.2 h_k]
  have n1:(k !=k')=true:=bne_iff_ne.2 h_k
  clear h_k rV rV' rD rD' cT cT' hq hq2 ix iy id id'
  clear gB gC gN gT gS A1 A2 A3 A4 A5 B1 B2 B3 B4 B5 rC rC' cQ cR cQ' cR' c1 c2 c3 cH c1' c2' c3' cH' cN cN' cG cG' ic ic'
  go_enter func84,ntmps84
  go_upto_region 1 with fail
  go_name_world w1 hw1
  obtain rfl:W=w1:=hW.out.symm.trans hw1
  clear hw1 hW
  go_wp2
  go_ret
  exact⟨by simp,hB⟩
 ·subst h_k
  by_cases h_e:e=e'
  rotate_left
  ·rw[show(e==e')=false from beq_eq_false_iff_ne.2 h_e]
   have n1:(e !=e')=true:=bne_iff_ne.2 h_e
   clear h_e rV rV' rD rD' cT cT' hq hq2 ix iy id id'
   clear gB gC gN gT gS A1 A2 A3 A4 A5 B1 B2 B3 B4 B5 rC rC' cQ cR cQ' cR' c1 c2 c3 cH c1' c2' c3' cH' cN cN' cG cG' ic ic'
   go_enter func84,ntmps84
   go_upto_region 1 with fail
   go_name_world w1 hw1
   obtain rfl:W=w1:=hW.out.symm.trans hw1
   clear hw1 hW
   go_wp2
   go_ret
   exact⟨by simp,hB⟩
  ·subst h_e
   by_cases h_l:l=l'
   rotate_left
   ·rw[show(l==l')=false from beq_eq_false_iff_ne.2 h_l]
    have n1:(l !=l')=true:=bne_iff_ne.2 h_l
    clear h_l rV rV' rD rD' cT cT' hq hq2 ix iy id id'
    clear gB gC gN gT gS A1 A2 A3 A4 A5 B1 B2 B3 B4 B5 rC rC' cQ cR cQ' cR' c1 c2 c3 cH c1' c2' c3' cH' cN cN' cG cG' ic ic'
    go_enter func84,ntmps84
    go_upto_region 1 with fail
    go_name_world w1 hw1
    obtain rfl:W=w1:=hW.out.symm.trans hw1
    clear hw1 hW
    go_wp2
    go_ret
    exact⟨by simp,hB⟩
   ·subst h_l
    by_cases h_v:v=v'
    rotate_left
    ·rw[show(v==v')=false from beq_eq_false_iff_ne.2 h_v]
     have n1:(v !=v')=true:=bne_iff_ne.2 h_v
     clear h_v rV rV' rD rD' cT cT' hq hq2 ix iy id id'
     clear gB gC gN gT gS A1 A2 A3 A4 A5 B1 B2 B3 B4 B5 rC rC' cQ cR cQ' cR' c1 c2 c3 cH c1' c2' c3' cH' cN cN' cG cG' ic ic'
     go_enter func84,ntmps84
     go_upto_region 1 with fail
     go_name_world w1 hw1
     obtain rfl:W=w1:=hW.out.symm.trans hw1
     clear hw1 hW
     go_wp2
     go_ret
     exact⟨by simp,hB⟩
    ·subst h_v
     by_cases h_s:s=s'
     rotate_left
     ·rw[show(s==s')=false from beq_eq_false_iff_ne.2 h_s]
      have n1:(s !=s')=true:=bne_iff_ne.2 h_s
      clear h_s rV rV' rD rD' cT cT' hq hq2 ix iy id id'
      clear gB gC gN gT gS A1 A2 A3 A4 A5 B1 B2 B3 B4 B5 rC rC' cQ cR cQ' cR' c1 c2 c3 cH c1' c2' c3' cH' cN cN' cG cG' ic ic'
      go_enter func84,ntmps84
      go_upto_region 1 with fail
      go_name_world w1 hw1
      obtain rfl:W=w1:=hW.out.symm.trans hw1
      clear hw1 hW
      go_wp2
      go_ret
      exact⟨by simp,hB⟩
     ·subst h_s
      have EN:((k==k)&&((e==e)&&((l==l)&&((v==v)&&(s==s)))))=true:=by simp
      rw[EN,Bool.true_and]
      clear EN
      cases vb
      ·rw[Bool.false_and,Bool.false_and]
       clear cT cT' hq2 id id' rD rD'
       clear gB gC gN gT gS A1 A2 A3 A4 A5 B1 B2 B3 B4 B5 rC rC' cQ cR cQ' cR' c1 c2 c3 cH c1' c2' c3' cH' cN cN' cG cG' ic ic'
       go_enter func84,ntmps84
       go_upto_region 1 with fail
       go_name_world w1 hw1
       obtain rfl:W=w1:=hW.out.symm.trans hw1
       clear hw1 hW
       go_upto_region 3 with fail
       try simp only[Act.put]
       refine wp_region_list ?_
       refine wpList_step fun K hK=>?_
       go_simp
       refine hK _ _ ?_
       clear hK K
       refine wpList_load_mid rfl 43 _ rfl _ _ rfl u _ rV underlying43 rfl ix ?_
       refine wpList_step fun K hK=>?_
       go_simp
       refine hK _ _ ?_
       clear hK K
       refine wpList_load_mid rfl 43 _ rfl _ _ rfl u' _ rV' underlying43 rfl iy ?_
       refine wpList_step fun K hK=>?_
       go_simp
       try rw[hq]
       try go_simp
       refine hK _ _ ?_
       clear hK K
       refine wpList_step fun K hK=>?_
       go_simp
       refine hK _ _ ?_
       clear hK K
       refine wpList_step fun K hK=>?_
       go_simp
       refine hK _ _ ?_
       clear hK K
       refine wpList_step fun K hK=>?_
       go_simp
       refine hK _ _ ?_
       clear hK K
       refine wpList_step fun K hK=>?_
       go_simp
       refine hK _ _ ?_
       clear hK K
       refine wpList_step fun K hK=>?_
       go_simp
       refine hK _ _ ?_
       clear hK K
       refine wpList_step fun K hK=>?_
       go_simp
       refine hK _ _ ?_
       clear hK K
       refine wpList_step fun K hK=>?_
       go_simp
       refine hK _ _ ?_
       clear hK K
       refine wpList_step fun K hK=>?_
       go_simp
       refine hK _ _ ?_
       clear hK K
       refine wpList_step fun K hK=>?_
       go_simp
       refine hK _ _ ?_
       clear hK K
       refine wpList_step fun K hK=>?_
       go_simp
       refine hK _ _ ?_
       clear hK K
       refine wpList_step fun K hK=>?_
       go_simp
       refine hK _ _ ?_
       clear hK K
       refine wpList_step fun K hK=>?_
       go_simp
       refine hK _ _ ?_
       clear hK K
       refine wpList_step fun K hK=>?_
       go_simp
       refine hK _ _ ?_
       clear hK K
       refine wpList_step fun K hK=>?_
       go_simp
       refine hK _ _ ?_
       clear hK K
       refine wpList_step fun K hK=>?_
       go_simp
       refine hK _ _ ?_
       clear hK K
       go_wp2
       go_ret
       exact⟨rfl,hB⟩
      ·rw[Bool.true_and]
       cases db
       ·rw[Bool.false_and,Bool.false_and]
        clear cT cT'
        clear gB gC gN gT gS A1 A2 A3 A4 A5 B1 B2 B3 B4 B5 rC rC' cQ cR cQ' cR' c1 c2 c3 cH c1' c2' c3' cH' cN cN' cG cG' ic ic'
        go_enter func84,ntmps84
        go_upto_region 1 with fail
        go_name_world w1 hw1
        obtain rfl:W=w1:=hW.out.symm.trans hw1
        clear hw1 hW
        go_upto_region 3 with fail
        try simp only[Act.put]
        refine wp_region_list ?_
        refine wpList_step fun K hK=>?_
        go_simp
        refine hK _ _ ?_
        clear hK K
        refine wpList_load_mid rfl 43 _ rfl _ _ rfl u _ rV underlying43 rfl ix ?_
        refine wpList_step fun K hK=>?_
        go_simp
        refine hK _ _ ?_
        clear hK K
        refine wpList_load_mid rfl 43 _ rfl _ _ rfl u' _ rV' underlying43 rfl iy ?_
        refine wpList_step fun K hK=>?_
        go_simp
        try rw[hq]
        try go_simp
        refine hK _ _ ?_
        clear hK K
        refine wpList_step fun K hK=>?_
        go_simp
        refine hK _ _ ?_
        clear hK K
        refine wpList_step fun K hK=>?_
        go_simp
        refine hK _ _ ?_
        clear hK K
        refine zS (by rfl) 41 _ rfl _ _ rfl ud _ rD underlying41 rfl id ?_
        refine wpList_step fun K hK=>?_
        go_simp
        refine hK _ _ ?_
        clear hK K
        refine zS (by rfl) 41 _ rfl _ _ rfl ud' _ rD' underlying41 rfl id' ?_
        refine wpList_step fun K hK=>?_
        go_simp
        try rw[hq2]
        try go_simp
        refine hK _ _ ?_
        clear hK K
        refine wpList_step fun K hK=>?_
        go_simp
        refine hK _ _ ?_
        clear hK K
        refine wpList_step fun K hK=>?_
        go_simp
        refine hK _ _ ?_
        clear hK K
        refine wpList_step fun K hK=>?_
        go_simp
        refine hK _ _ ?_
        clear hK K
        refine wpList_step fun K hK=>?_
        go_simp
        refine hK _ _ ?_
        clear hK K
        refine wpList_step fun K hK=>?_
        go_simp
        refine hK _ _ ?_
        clear hK K
        refine wpList_step fun K hK=>?_
        go_simp
        refine hK _ _ ?_
        clear hK K
        refine wpList_step fun K hK=>?_
        go_simp
        refine hK _ _ ?_
        clear hK K
        refine wpList_step fun K hK=>?_
        go_simp
        refine hK _ _ ?_
        clear hK K
        refine wpList_step fun K hK=>?_
        go_simp
        refine hK _ _ ?_
        clear hK K
        go_wp2
        go_ret
        exact⟨rfl,hB⟩
       ·rw[Bool.true_and]
        by_cases h_st:st.toList=st'.toList
        rotate_left
        ·rw[show(st.toList==st'.toList)=false from beq_eq_false_iff_ne.2 h_st,Bool.false_and]
         have hst:(st.toList !=st'.toList)=true:=bne_iff_ne.2 h_st
         clear h_st
         clear gB gC gN gT gS A1 A2 A3 A4 A5 B1 B2 B3 B4 B5 rC rC' cQ cR cQ' cR' c1 c2 c3 cH c1' c2' c3' cH' cN cN' cG cG' ic ic'
         go_enter func84,ntmps84
         go_upto_region 1 with fail
         go_name_world w1 hw1
         obtain rfl:W=w1:=hW.out.symm.trans hw1
         clear hw1 hW
         go_upto_region 3 with fail
         try simp only[Act.put]
         refine wp_region_list ?_
         refine wpList_step fun K hK=>?_
         go_simp
         refine hK _ _ ?_
         clear hK K
         refine wpList_load_mid rfl 43 _ rfl _ _ rfl u _ rV underlying43 rfl ix ?_
         refine wpList_step fun K hK=>?_
         go_simp
         refine hK _ _ ?_
         clear hK K
         refine wpList_load_mid rfl 43 _ rfl _ _ rfl u' _ rV' underlying43 rfl iy ?_
         refine wpList_step fun K hK=>?_
         go_simp
         try rw[hq]
         try go_simp
         refine hK _ _ ?_
         clear hK K
         refine wpList_step fun K hK=>?_
         go_simp
         refine hK _ _ ?_
         clear hK K
         refine wpList_step fun K hK=>?_
         go_simp
         refine hK _ _ ?_
         clear hK K
         refine zS (by rfl) 41 _ rfl _ _ rfl ud _ rD underlying41 rfl id ?_
         refine wpList_step fun K hK=>?_
         go_simp
         refine hK _ _ ?_
         clear hK K
         refine zS (by rfl) 41 _ rfl _ _ rfl ud' _ rD' underlying41 rfl id' ?_
         refine wpList_step fun K hK=>?_
         go_simp
         try rw[hq2]
         try go_simp
         refine hK _ _ ?_
         clear hK K
         refine wpList_step fun K hK=>?_
         go_simp
         refine hK _ _ ?_
         clear hK K
         refine wpList_step fun K hK=>?_
         go_simp
         refine hK _ _ ?_
         clear hK K
         refine wpList_step fun K hK=>?_
         go_simp
         refine hK _ _ ?_
         clear hK K
         refine wpList_step fun K hK=>?_
         go_simp
         refine hK _ _ ?_
         clear hK K
         refine wpList_step fun K hK=>?_
         go_simp
         refine hK _ _ ?_
         clear hK K
         refine wpList_step fun K hK=>?_
         go_simp
         refine hK _ _ ?_
         clear hK K
         refine zd2 (by rfl) _ _ _ _ rfl st st' rfl rfl true hst ?_
         refine wpList_step fun K hK=>?_
         go_simp
         refine hK _ _ ?_
         clear hK K
         refine wpList_step fun K hK=>?_
         go_simp
         refine hK _ _ ?_
         clear hK K
         go_wp2
         go_ret
         exact⟨rfl,hB⟩
        ·rw[show(st.toList==st'.toList)=true from beq_iff_eq.2 h_st,Bool.true_and]
         have hst:(st.toList !=st'.toList)=false:=by rw[h_st];simp
         clear h_st
         go_enter func84,ntmps84
         go_upto_region 1 with fail
         go_name_world w1 hw1
         obtain rfl:W=w1:=hW.out.symm.trans hw1
         clear hw1 hW
         go_upto_region 3 with fail
         try simp only[Act.put]
         refine wp_region_list ?_
         refine wpList_step fun K hK=>?_
         go_simp
         refine hK _ _ ?_
         clear hK K
         refine wpList_load_mid rfl 43 _ rfl _ _ rfl u _ rV underlying43 rfl ix ?_
         refine wpList_step fun K hK=>?_
         go_simp
         refine hK _ _ ?_
         clear hK K
         refine wpList_load_mid rfl 43 _ rfl _ _ rfl u' _ rV' underlying43 rfl iy ?_
         refine wpList_step fun K hK=>?_
         go_simp
         try rw[hq]
         try go_simp
         refine hK _ _ ?_
         clear hK K
         refine wpList_step fun K hK=>?_
         go_simp
         refine hK _ _ ?_
         clear hK K
         refine wpList_step fun K hK=>?_
         go_simp
         refine hK _ _ ?_
         clear hK K
         refine zS (by rfl) 41 _ rfl _ _ rfl ud _ rD underlying41 rfl id ?_
         refine wpList_step fun K hK=>?_
         go_simp
         refine hK _ _ ?_
         clear hK K
         refine zS (by rfl) 41 _ rfl _ _ rfl ud' _ rD' underlying41 rfl id' ?_
         refine wpList_step fun K hK=>?_
         go_simp
         try rw[hq2]
         try go_simp
         refine hK _ _ ?_
         clear hK K
         refine wpList_step fun K hK=>?_
         go_simp
         refine hK _ _ ?_
         clear hK K
         refine wpList_step fun K hK=>?_
         go_simp
         refine hK _ _ ?_
         clear hK K
         refine wpList_step fun K hK=>?_
         go_simp
         refine hK _ _ ?_
         clear hK K
         refine wpList_step fun K hK=>?_
         go_simp
         refine hK _ _ ?_
         clear hK K
         refine wpList_step fun K hK=>?_
         go_simp
         refine hK _ _ ?_
         clear hK K
         refine wpList_step fun K hK=>?_
         go_simp
         refine hK _ _ ?_
         clear hK K
         refine zd2 (by rfl) _ _ _ _ rfl st st' rfl rfl false hst ?_
         refine wpList_step fun K hK=>?_
         go_simp
         refine hK _ _ ?_
         clear hK K
         refine wpList_step fun K hK=>?_
         go_simp
         refine hK _ _ ?_
         clear hK K
         go_upto_region 5 with fail
         clear cK cE cL cV cS cK' cE' cL' cV' cS' rV rV' rD rD' cT cT' hq hq2 hst ix iy id id'
         have G1:=gB W A1 B1
         go_wp2_with fail
         refine G1.mono ?_
         rintro e2 w2 ⟨rfl,hb2⟩
         have up:=fun i v (h:W.cell? ⟨w.heap.size,i,none⟩=some v)=>(hb2.cell (p:=⟨w.heap.size,i,none⟩) (show w.heap.size<W.heap.size by omega)).trans h
         replace c1:=up _ _ c1
         replace c2:=up _ _ c2
         replace c3:=up _ _ c3
         replace cH:=up _ _ cH
         replace cN:=up _ _ cN
         replace cG:=up _ _ cG
         replace rC:=zd rC hb2 (by omega)
         clear up
         have up':=fun i v (h:W.cell? ⟨w.heap.size+1,i,none⟩=some v)=>(hb2.cell (p:=⟨w.heap.size+1,i,none⟩) (show w.heap.size+1<W.heap.size by omega)).trans h
         replace c1':=up' _ _ c1'
         replace c2':=up' _ _ c2'
         replace c3':=up' _ _ c3'
         replace cH':=up' _ _ cH'
         replace cN':=up' _ _ cN'
         replace cG':=up' _ _ cG'
         replace rC':=zd rC' hb2 (by omega)
         clear up'
         have hs2:=Nat.le_trans hs hb2.size
         have hB2:=hB.trans (hb2.mono (by omega))
         have G2:=gC w2 (A2.below hb2) (B2.below hb2)
         replace A3:=A3.below hb2
         replace B3:=B3.below hb2
         replace A4:=A4.below hb2
         replace B4:=B4.below hb2
         replace A5:=A5.below hb2
         replace B5:=B5.below hb2
         clear cQ cR cQ' cR' hb2 hs hB G1 gB gC A1 B1 A2 B2
         cases b1
         ·clear gN gT gS A3 A4 A5 B3 B4 B5 G2
          go_wp2
          go_ret
          exact⟨rfl,hB2⟩
         ·go_wp2_with fail
          refine G2.mono ?_
          rintro e3 w3 ⟨rfl,hb3⟩
          have up:=fun i v (h:w2.cell? ⟨w.heap.size,i,none⟩=some v)=>(hb3.cell (p:=⟨w.heap.size,i,none⟩) (show w.heap.size<w2.heap.size by omega)).trans h
          replace cN:=up _ _ cN
          replace cG:=up _ _ cG
          replace rC:=zd rC hb3 (by omega)
          clear up
          have up':=fun i v (h:w2.cell? ⟨w.heap.size+1,i,none⟩=some v)=>(hb3.cell (p:=⟨w.heap.size+1,i,none⟩) (show w.heap.size+1<w2.heap.size by omega)).trans h
          replace cN':=up' _ _ cN'
          replace cG':=up' _ _ cG'
          replace rC':=zd rC' hb3 (by omega)
          clear up'
          have hs3:=Nat.le_trans hs2 hb3.size
          have hB3:=hB2.trans (hb3.mono (by omega))
          have G3:=gN w3 (A3.below hb3) (B3.below hb3)
          replace A4:=A4.below hb3
          replace B4:=B4.below hb3
          replace A5:=A5.below hb3
          replace B5:=B5.below hb3
          clear hb3 hB2 hs2 G2 gN A3 B3 c1 c2 c3 cH c1' c2' c3' cH'
          cases b2
          ·clear G3 gT gS A4 A5 B4 B5
           go_wp2
           go_ret
           exact⟨rfl,hB3⟩
          ·go_wp2_with fail
           refine G3.mono ?_
           rintro e4 w4 ⟨rfl,hb4⟩
           have up:=fun i v (h:w3.cell? ⟨w.heap.size,i,none⟩=some v)=>(hb4.cell (p:=⟨w.heap.size,i,none⟩) (show w.heap.size<w3.heap.size by omega)).trans h
           replace cG:=up _ _ cG
           replace rC:=zd rC hb4 (by omega)
           clear up
           have up':=fun i v (h:w3.cell? ⟨w.heap.size+1,i,none⟩=some v)=>(hb4.cell (p:=⟨w.heap.size+1,i,none⟩) (show w.heap.size+1<w3.heap.size by omega)).trans h
           replace cG':=up' _ _ cG'
           replace rC':=zd rC' hb4 (by omega)
           clear up'
           have hs4:=Nat.le_trans hs3 hb4.size
           have hB4:=hB3.trans (hb4.mono (by omega))
           have G4:=gT w4 (A4.below hb4) (B4.below hb4)
           replace A5:=A5.below hb4
           replace B5:=B5.below hb4
           clear hb4 hB3 hs3 G3 gT A4 B4 cN cN'
           cases b3
           ·clear G4 gS A5 B5
            go_wp2
            go_ret
            exact⟨rfl,hB4⟩
           ·go_wp2_with (first|(refine zS (by rfl) 50 _ rfl _ _ rfl uc _ rC underlying50 rfl ic ?_)|(refine zS (by rfl) 50 _ rfl _ _ rfl uc' _ rC' underlying50 rfl ic' ?_))
            refine G4.mono ?_
            rintro e5 w5 ⟨rfl,hb5⟩
            have up:=fun i v (h:w4.cell? ⟨w.heap.size,i,none⟩=some v)=>(hb5.cell (p:=⟨w.heap.size,i,none⟩) (show w.heap.size<w4.heap.size by omega)).trans h
            replace cG:=up _ _ cG
            clear up
            have up':=fun i v (h:w4.cell? ⟨w.heap.size+1,i,none⟩=some v)=>(hb5.cell (p:=⟨w.heap.size+1,i,none⟩) (show w.heap.size+1<w4.heap.size by omega)).trans h
            replace cG':=up' _ _ cG'
            clear up'
            have hB5:=hB4.trans (hb5.mono (by omega))
            have G5:=gS w5 (A5.below hb5) (B5.below hb5)
            clear hb5 hB4 G4 gS A5 B5 rC rC'
            cases b4
            ·clear G5
             go_wp2
             go_ret
             exact⟨rfl,hB5⟩
            ·go_wp2_with fail
             refine G5.mono ?_
             rintro e6 w6 ⟨rfl,hb6⟩
             have hB6:=hB5.trans (hb6.mono hB5.size)
             clear hb6
             cases b5
             ·go_wp2
              go_ret
              exact⟨rfl,hB6⟩
             ·go_wp2
              go_ret
              exact⟨rfl,hB6⟩
open Go.RowKit
open Sha Tal
set_option linter.unusedVariables false
set_option linter.unusedSimpArgs false
def Mg.body (m:Mg):List Int:=
 if m.k=1 then[m.e,m.s].flatMap putL++batL m.q (m.rs.xs.map BRq.of)
 else if m.k=2 then vtL m.vt
 else if m.k=3 then[m.ce,m.cl,m.cv].flatMap putL++hdsL m.he.xs
 else if m.k=4 then[m.e,m.l,m.v].flatMap putL++evsL m.ne.xs
 else if m.k=5 then putL m.e++m.d
 else if m.k=6 then[m.e,m.s].flatMap putL
 else if m.k=7 then batL m.q (m.rs.xs.map BRq.of)++ctL m.ct m.cs.xs
 else textL m.st++sgsL m.sg.xs
def Mg.bytes (m:Mg):List Int:=putL m.k++m.body
structure Mg.Fine (m:Mg):Prop where
 e:m.e≤9223372036854775807
 l:m.l≤9223372036854775807
 v:m.v≤9223372036854775807
 s:m.s≤9223372036854775807
 ce:m.ce≤9223372036854775807
 cl:m.cl≤9223372036854775807
 cv:m.cv≤9223372036854775807
 rn:m.rs.xs.length≤200
 rs:∀r∈m.rs.xs,r.s.size≤4000
 hn:m.he.xs.length≤1000
 he:∀g∈m.he.xs,g.sg.xs.length≤1000∧g.rs.xs.length≤200∧∀r∈g.rs.xs,r.s.size≤4000
 nn:m.ne.xs.length≤1000
 ne:∀g∈m.ne.xs,g.s.size≤1000000
 cn:m.cs.xs.length≤1000
 gn:m.sg.xs.length≤1000
 st:m.st.size≤1000000
 all:m.bytes.length≤40000
theorem zgZ (X:Nat) (v:Value) (zs:List Int) (m:Mg) (w0 w:World) (om:m.ok) (am:m.At w0) (hf:m.Fine) (hk:m.k=1) (hb:Below w0.heap.size w0 w) (hX:w0.heap.size≤X) (h:WrAt w X v zs false) (hz:zs.length≤100000):Calls prog 58 #[.pointer (some ⟨X,0,none⟩),.agg m.ms.cells.toArray] w fun e w'=>WrOn X v zs m.bytes w e w':=by
 have hall:=hf.all
 have hbd:m.bytes=putL 1++m.body:=by unfold Mg.bytes;rw[hk]
 rw[hbd,List.length_append]at hall
 rw[hbd]
 clear hbd
 have hat:∀{w':World} {b:Nat},w'.rangeAt b 0 m.ms.cells→m.ms.at w' b:=fun hr=>om.ms.at hr
 have hkk:m.ms.k=1:=hk
 have hbody:m.body=[m.e,m.s].flatMap putL++batL m.q (m.rs.xs.map BRq.of):=by unfold Mg.body;rw[hk];rfl
 rw[hbody,List.length_append]at hall
 obtain⟨q,hq⟩:∃q,Hid (m.ms.cells=q):=⟨_,hide rfl⟩
 rw[hq.out]
 simp only[hq.out]at hat
 clear hq
 obtain⟨hB1,hR1,hs1⟩:=zu w q 52
 go_enter func58,ntmps58
 go_upto_region 1 with fail
 obtain⟨w1,hw1⟩:∃W,w.alloc (.cells q.toArray 52)=W:=⟨_,rfl⟩
 rw[hw1]at hB1 hR1 hs1 ⊢
 have h1:=h.below hB1
 have hXl:=h.lt
 clear hw1
 have MA:=hat hR1
 have ck:=MA.k
 rw[hkk]at ck
 try simp only[Act.put]
 refine zb ?_
 refine pl_t 4 (?_) (by rfl) ?_ rfl ?_
 rotate_left
 ·go_simp
  try with_reducible rfl
 simp only[nz]
 refine pl_t 5 (?_) (by rfl) ?_ rfl ?_
 rotate_left
 ·go_simp
  try with_reducible rfl
 simp only[nz]
 refine pl_t 6 (.int .i64 1) (by rfl) (zg rfl rfl ck underlying3 rfl) rfl ?_
 simp only[nz]
 refine zj (d:=some 7) (v:=.slice (some ⟨w1.heap.size,0,none⟩) 1 1) (w':=w1.alloc (.cells #[.int .i64 1] 3)) (by rfl) (zj0 rfl rfl (zhP 1 _)) rfl ?_
 simp only[nz]
 refine ze (d:=some 8) (by rfl) (by go_simp;first|done|exact⟨rfl,rfl⟩|with_reducible rfl) rfl ?_
 refine(ze7 X v zs [1] _ 1 w1 h1 rfl rfl (by omega) (ze5 (by decide)) (by simp;omega)).mono ?_
 rintro _ w2 ⟨v2,rfl,hW2,hO2,hr2⟩
 refine⟨_,rfl,?_⟩
 simp only[nz]
 refine za ?_
 have hR2:=zd0 h hs1 hO2 hR1
 have T:=zaO (Off.of_below hB1) (zeI w v) hO2 hr2
 have hb2:=hb.trans (zdZ h hX T.1)
 have hW2:WrAt w2 X v2 (zs++putL 1) false:=by simpa using hW2
 have MA:=hat hR2
 have ck:=MA.k
 rw[hkk]at ck
 have HF0:∀{v':Value} {e':Ending} {w' wz:World},Off (WrF X v) w wz→RowOn w v v'→WrOn X v' (zs++putL 1++[m.e,m.s].flatMap putL) (batL m.q (m.rs.xs.map BRq.of)) wz e' w'→WrOn X v zs (putL 1++m.body) w e' w':=fun o r q=>by
  rw[hbody,←List.append_assoc]
  rw[List.append_assoc zs]at q
  exact WrOn.next o r q
 have cN:=ze7 X v2 (zs++putL 1) [m.e,m.s] #[.int .i64 m.e,.int .i64 m.s] 2 w2 hW2 rfl rfl (by omega) (zhc hf.e hf.s) (by rw[List.length_append];omega)
 have cB:=fun v' w' (hb':Below w0.heap.size w0 w') (h':WrAt w' X v' (zs++putL 1++[m.e,m.s].flatMap putL) false)=>zg0 X v' (zs++putL 1++[m.e,m.s].flatMap putL) m.q m.rs w' (am.rs.below hb') h' hf.rn hf.rs (by simp only[List.length_append];omega)
 have de:=MA.e
 have ds:=MA.s
 go_upto_region 4 with fail
 try simp only[Act.put]
 refine zb ?_
 refine pl_t 13 (?_) (by rfl) ?_ rfl ?_
 rotate_left
 ·go_simp
  try with_reducible rfl
 simp only[nz]
 refine pl_t 14 (?_) (by rfl) ?_ rfl ?_
 rotate_left
 ·go_simp
  try with_reducible rfl
 simp only[nz]
 refine pl_t 15 (.int .i64 m.e) (by rfl) (zg rfl rfl de underlying3 rfl) rfl ?_
 simp only[nz]
 refine pl_t 16 (?_) (by rfl) ?_ rfl ?_
 rotate_left
 ·go_simp
  try with_reducible rfl
 simp only[nz]
 refine pl_t 17 (.int .i64 m.s) (by rfl) (zg rfl rfl ds underlying3 rfl) rfl ?_
 simp only[nz]
 refine zj (d:=some 18) (v:=.slice (some ⟨w2.heap.size,0,none⟩) 2 2) (w':=w2.alloc (.cells #[.int .i64 m.e,.int .i64 m.s] 3)) (by rfl) (zjZ rfl rfl rfl (zhO m.e m.s _)) rfl ?_
 simp only[nz]
 refine ze (d:=some 19) (by rfl) (by go_simp;first|done|exact⟨rfl,rfl⟩|with_reducible rfl) rfl ?_
 refine(cN).mono ?_
 rintro _ w3 ⟨v3,rfl,hW3,hO3,hr3⟩
 refine⟨_,rfl,?_⟩
 simp only[nz]
 refine za ?_
 have T12:=zaO hO2 hr2 hO3 hr3
 have hR3:=zd0 h hs1 T12.1 hR1
 have T:=zaO T.1 T.2 hO3 hr3
 have hb3:=hb.trans (zdZ h hX T.1)
 have MA:=hat hR3
 have cB3:=cB v3 w3 hb3 hW3
 have rb:w3.rangeAt w.heap.size 5 [.bool m.q,m.rs.val]:=fun j u hj=>by
  rcases j with _|_|j
  ·cases hj;exact MA.q
  ·cases hj;exact MA.rs
  ·cases hj
 clear cB cN
 go_upto_region 5 with fail
 try simp only[Act.put]
 refine zb ?_
 refine pl_t 20 (?_) (by rfl) ?_ rfl ?_
 rotate_left
 ·go_simp
  try with_reducible rfl
 simp only[nz]
 refine pl_t 21 (?_) (by rfl) ?_ rfl ?_
 rotate_left
 ·go_simp
  try with_reducible rfl
 simp only[nz]
 refine pl_t 22 (.agg [.bool m.q,m.rs.val].toArray) (by rfl) (zp rfl rfl rb underlying39 rfl iszBa) rfl ?_
 simp only[nz]
 refine ze (d:=some 23) (by rfl) (by go_simp;first|done|exact⟨rfl,rfl⟩|with_reducible rfl) rfl ?_
 refine(cB3).mono ?_
 rintro _ w4 hfin
 have HF:=hide (HF0 T.1 T.2 hfin)
 obtain⟨v9,rfl,g1,g2,g3⟩:=hfin
 refine⟨_,rfl,?_⟩
 simp only[nz]
 refine za ?_
 go_wp2_with fail
 go_end0
 exact HF.out
open Go.RowKit
open Sha Tal
set_option linter.unusedVariables false
set_option linter.unusedSimpArgs false
def FOn (zs bs:List Int) (w:World) (e:Ending) (w':World):Prop:=∃v,e=.returned v∧Mine w' w.heap.size v (zs++bs)∧Below w.heap.size w w'
open Go.RowKit
open Sha Tal
open Go.RowKit
open Sha Tal
structure Bst (w X:World) (b2:Nat) (q:List Value):Prop where
 A:X.rangeAt w.heap.size 0 q
 T:X.there b2 0 119
 T1:X.there (w.heap.size+1) 0 119
 B:Below w.heap.size w X
 h2:w.heap.size+2≤b2
 hs:b2<X.heap.size
theorem Bst.put {w X:World} {b2:Nat} {q:List Value} (h:Bst w X b2 q) (o:Nat) (vs:List Value):Bst w (X.setCells b2 o vs) b2 q:=
 ⟨World.rangeAt_setCells_apart h.A _ _ _ (.inl (by have:=h.h2;omega)),World.there_setCells h.T _ _ _,World.there_setCells h.T1 _ _ _,zi (by have:=h.h2;omega) vs o _ h.B,h.h2,by rw[zH];exact h.hs⟩
theorem Bst.below {w X Y:World} {b2:Nat} {q:List Value} (h:Bst w X b2 q) (hb:Below X.heap.size X Y):Bst w Y b2 q:=
 ⟨zd h.A hb (by have:=h.h2;have:=h.hs;omega),zq h.T hb h.hs,zq h.T1 hb (by have:=h.h2;have:=h.hs;omega),h.B.trans (hb.mono h.B.size),h.h2,Nat.lt_of_lt_of_le h.hs hb.size⟩
theorem Bst.part {w X:World} {b2:Nat} {q:List Value} (h:Bst w X b2 q) (o n:Nat) (hn:o+n≤119):X.there b2 o n:=by
 have:=zan h.T o n hn
 rwa [Nat.zero_add]at this
theorem za1 {c:Ms} {X:World} {b:Nat} (x:Int) (r:X.rangeAt b 0 c.cells) (ht:X.there b 1 1):(X.setCells b 1 [.int .i64 x]).rangeAt b 0 {c with e:=x}.cells:=
 zay (pre:=[Value.int .i64 c.k]) (mid:=[.int .i64 c.e]) (vs:=[.int .i64 x]) r 1 rfl ht rfl
theorem zeX {c:Ms} {X:World} {b:Nat} (x:Int) (r:X.rangeAt b 0 c.cells) (ht:X.there b 2 1):(X.setCells b 2 [.int .i64 x]).rangeAt b 0 {c with l:=x}.cells:=
 zay (pre:=[Value.int .i64 c.k,Value.int .i64 c.e]) (mid:=[.int .i64 c.l]) (vs:=[.int .i64 x]) r 2 rfl ht rfl
theorem zeT {c:Ms} {X:World} {b:Nat} (x:Int) (r:X.rangeAt b 0 c.cells) (ht:X.there b 3 1):(X.setCells b 3 [.int .i64 x]).rangeAt b 0 {c with v:=x}.cells:=
 zay (pre:=[Value.int .i64 c.k,Value.int .i64 c.e,Value.int .i64 c.l]) (mid:=[.int .i64 c.v]) (vs:=[.int .i64 x]) r 3 rfl ht rfl
theorem zbQ {c:Ms} {X:World} {b:Nat} (x:Int) (r:X.rangeAt b 0 c.cells) (ht:X.there b 4 1):(X.setCells b 4 [.int .i64 x]).rangeAt b 0 {c with s:=x}.cells:=
 zay (pre:=[Value.int .i64 c.k,Value.int .i64 c.e,Value.int .i64 c.l,Value.int .i64 c.v]) (mid:=[.int .i64 c.s]) (vs:=[.int .i64 x]) r 4 rfl ht rfl
theorem zbR {c:Ms} {X:World} {b:Nat} (x:Bool) (y:Value) (r:X.rangeAt b 0 c.cells) (ht:X.there b 5 2):(X.setCells b 5 [.bool x,y]).rangeAt b 0 {c with q:=x,rs:=y}.cells:=
 zay (pre:=[Value.int .i64 c.k,.int .i64 c.e,.int .i64 c.l,.int .i64 c.v,.int .i64 c.s]) (mid:=[.bool c.q,c.rs]) (vs:=[.bool x,y]) r 5 rfl ht rfl
theorem zeS {c:Ms} {X:World} {b:Nat} (x:Vt) (hx:x.ok) (hc:c.vt.ok) (r:X.rangeAt b 0 c.cells) (ht:X.there b 7 36):(X.setCells b 7 x.cells).rangeAt b 0 {c with vt:=x}.cells:=
 zay (pre:=[.int .i64 c.k,.int .i64 c.e,.int .i64 c.l,.int .i64 c.v,.int .i64 c.s,.bool c.q,c.rs]) (mid:=c.vt.cells) (vs:=x.cells) r 7 rfl (by rw[hx.len];exact ht) (by rw[hx.len,hc.len])
theorem ze0 {c:Ms} {X:World} {b:Nat} (x y z:Int) (u:Value) (hc:c.vt.ok) (r:X.rangeAt b 0 c.cells) (ht:X.there b 43 4):(X.setCells b 43 [.int .i64 x,.int .i64 y,.int .i64 z,u]).rangeAt b 0 {c with ce:=x,cl:=y,cv:=z,he:=u}.cells:=by
 have h:=zay (pre:=[.int .i64 c.k,.int .i64 c.e,.int .i64 c.l,.int .i64 c.v,.int .i64 c.s,.bool c.q,c.rs]++c.vt.cells) (mid:=[.int .i64 c.ce,.int .i64 c.cl,.int .i64 c.cv,c.he]) (vs:=[.int .i64 x,.int .i64 y,.int .i64 z,u]) (post:=c.ne::(v8 c.d++(c.ct.cells++[c.cs,.string c.st,c.sg]))) (by simpa [Ms.cells,List.append_assoc]using r) 43 (by simp[hc.len]) ht rfl
 simpa [Ms.cells,List.append_assoc]using h
theorem zeW {c:Ms} {X:World} {b:Nat} (x:Value) (hc:c.vt.ok) (r:X.rangeAt b 0 c.cells) (ht:X.there b 47 1):(X.setCells b 47 [x]).rangeAt b 0 {c with ne:=x}.cells:=by
 have h:=zay (pre:=[.int .i64 c.k,.int .i64 c.e,.int .i64 c.l,.int .i64 c.v,.int .i64 c.s,.bool c.q,c.rs]++c.vt.cells++[.int .i64 c.ce,.int .i64 c.cl,.int .i64 c.cv,c.he]) (mid:=[c.ne]) (vs:=[x]) (post:=v8 c.d++(c.ct.cells++[c.cs,.string c.st,c.sg])) (by simpa [Ms.cells,List.append_assoc]using r) 47 (by simp[hc.len]) ht rfl
 simpa [Ms.cells,List.append_assoc]using h
theorem zeY {c:Ms} {X:World} {b:Nat} (x:List Int) (hx:x.length=32) (hd:c.d.length=32) (hc:c.vt.ok) (r:X.rangeAt b 0 c.cells) (ht:X.there b 48 32):(X.setCells b 48 (v8 x)).rangeAt b 0 {c with d:=x}.cells:=by
 have h:=zay (pre:=[.int .i64 c.k,.int .i64 c.e,.int .i64 c.l,.int .i64 c.v,.int .i64 c.s,.bool c.q,c.rs]++c.vt.cells++[.int .i64 c.ce,.int .i64 c.cl,.int .i64 c.cv,c.he,c.ne]) (mid:=v8 c.d) (vs:=v8 x) (post:=c.ct.cells++[c.cs,.string c.st,c.sg]) (by simpa [Ms.cells,List.append_assoc]using r) 48 (by simp[hc.len]) (by rw[v8_length,hx];exact ht) (by rw[v8_length,v8_length,hx,hd])
 simpa [Ms.cells,List.append_assoc]using h
theorem zeZ {c:Ms} {X:World} {b:Nat} (x:Vt) (y:Value) (hx:x.ok) (hy:c.ct.ok) (hd:c.d.length=32) (hc:c.vt.ok) (r:X.rangeAt b 0 c.cells) (ht:X.there b 80 37):(X.setCells b 80 (x.cells++[y])).rangeAt b 0 {c with ct:=x,cs:=y}.cells:=by
 have h:=zay (pre:=[.int .i64 c.k,.int .i64 c.e,.int .i64 c.l,.int .i64 c.v,.int .i64 c.s,.bool c.q,c.rs]++c.vt.cells++[.int .i64 c.ce,.int .i64 c.cl,.int .i64 c.cv,c.he,c.ne]++v8 c.d) (mid:=c.ct.cells++[c.cs]) (vs:=x.cells++[y]) (post:=[.string c.st,c.sg]) (by simpa [Ms.cells,List.append_assoc]using r) 80 (by simp[hc.len,hd]) (by simp[hx.len];exact ht) (by simp[hx.len,hy.len])
 simpa [Ms.cells,List.append_assoc]using h
theorem zeU {c:Ms} {X:World} {b:Nat} (x:ByteArray) (hy:c.ct.ok) (hd:c.d.length=32) (hc:c.vt.ok) (r:X.rangeAt b 0 c.cells) (ht:X.there b 117 1):(X.setCells b 117 [.string x]).rangeAt b 0 {c with st:=x}.cells:=by
 have h:=zay (pre:=[.int .i64 c.k,.int .i64 c.e,.int .i64 c.l,.int .i64 c.v,.int .i64 c.s,.bool c.q,c.rs]++c.vt.cells++[.int .i64 c.ce,.int .i64 c.cl,.int .i64 c.cv,c.he,c.ne]++v8 c.d++(c.ct.cells++[c.cs])) (mid:=[.string c.st]) (vs:=[.string x]) (post:=[c.sg]) (by simpa [Ms.cells,List.append_assoc]using r) 117 (by simp[hc.len,hd,hy.len]) ht rfl
 simpa [Ms.cells,List.append_assoc]using h
theorem zeV {c:Ms} {X:World} {b:Nat} (x:Value) (hy:c.ct.ok) (hd:c.d.length=32) (hc:c.vt.ok) (r:X.rangeAt b 0 c.cells) (ht:X.there b 118 1):(X.setCells b 118 [x]).rangeAt b 0 {c with sg:=x}.cells:=by
 have h:=zay (pre:=[.int .i64 c.k,.int .i64 c.e,.int .i64 c.l,.int .i64 c.v,.int .i64 c.s,.bool c.q,c.rs]++c.vt.cells++[.int .i64 c.ce,.int .i64 c.cl,.int .i64 c.cv,c.he,c.ne]++v8 c.d++(c.ct.cells++[c.cs,.string c.st])) (mid:=[c.sg]) (vs:=[x]) (post:=[]) (by simpa [Ms.cells,List.append_assoc]using r) 118 (by simp[hc.len,hd,hy.len]) ht rfl
 simpa [Ms.cells,List.append_assoc]using h
open Go.RowKit
open Sha Tal
theorem loadC {P:Program} (w:World) {b o:Nat} {ty:TypeId} {v:Value} {d:TypeDesc} (hc:w.cell? ⟨b,o,none⟩=some v) (hu:P.underlying ty=some d) (hd:d.isRow=false):(loadVar ty ⟨b,o,none⟩).run P w=.ok v w:=by
 simp only[loadVar,isAgg,run_underlying hu,Sem.run_bind,Result.andThen_ok]
 cases d<;>first|(simp[TypeDesc.isRow]at hd;done)|simp[go_sem,hc]
def Ms.bare1 (m:Ms):Ms:={Ms.plain 1 0 0 Vt.zero zeros32 with q:=m.q,rs:=m.rs,e:=m.e,s:=m.s}
theorem Ms.bare1_ok {m:Ms} (hm:m.ok):m.bare1.ok:=by
 have oc:=Ms.plain_ok 1 0 0 Vt.zero_ok zv zD
 exact⟨by first|exact hm.vt|exact oc.vt,by first|exact hm.ct|exact oc.ct,by first|exact hm.dl|exact oc.dl,by first|exact hm.db|exact oc.db,by first|exact hm.rs|rfl,by first|exact hm.he|rfl,by first|exact hm.ne|rfl,by first|exact hm.cs|rfl,by first|exact hm.sg|rfl⟩
theorem bareG1 (m:Ms) (hm:m.ok) (hk:m.k=1) (w:World):Calls prog 85 #[.agg m.cells.toArray] w (BareOk w m.bare1.cells):=by
  have oc:=Ms.plain_ok 1 0 0 Vt.zero_ok zv zD
  have hz0:Ms.zero.ok:=Ms.plain_ok 0 0 0 Vt.zero_ok zv zD
  have od:=Ms.bare1_ok hm
  have lk:=oc.len
  have lz:=hz0.len
  have ld:=od.len
  have ok:=all_oneCell_toArray oc.one
  have om:=all_oneCell_toArray od.one
  have hz:=zeroM
  have hbk:=zaG 1
  have hat:∀(w':World) b,w'.rangeAt b 0 m.cells→w'.cell? ⟨b,0,none⟩=some (.int .i64 1)∧w'.rangeAt b 5 ([.bool m.q,m.rs])∧w'.cell? ⟨b,1,none⟩=some (.int .i64 m.e)∧w'.cell? ⟨b,4,none⟩=some (.int .i64 m.s):=fun w' b h=>by
    have M:=hm.at h
    exact⟨(by rw[←hk];exact M.k),(fun j v hj=>by
    match j,hj with
    |0,hj=>cases hj;exact M.q
    |1,hj=>cases hj;exact M.rs),M.e,M.s⟩
  have hput1:∀(X:World) b,X.rangeAt b 0 (Ms.plain 1 0 0 Vt.zero zeros32).cells→X.there b 0 119→(X.setCells b 5 ([.bool m.q,m.rs])).rangeAt b 0 ({(Ms.plain 1 0 0 Vt.zero zeros32)with q:=m.q,rs:=m.rs}:Ms).cells:=fun X b r0 t0=>by
    have t1:X.there b 5 2:=by have:=zan t0 5 2 (by omega);rwa [Nat.zero_add]at this
    exact zbR m.q m.rs r0 t1
  have hput2:∀(X:World) b,X.rangeAt b 0 ({(Ms.plain 1 0 0 Vt.zero zeros32)with q:=m.q,rs:=m.rs}:Ms).cells→X.there b 0 119→(X.setCells b 1 ([.int .i64 m.e])).rangeAt b 0 ({({(Ms.plain 1 0 0 Vt.zero zeros32)with q:=m.q,rs:=m.rs}:Ms)with e:=m.e}:Ms).cells:=fun X b r0 t0=>by
    have t1:X.there b 1 1:=by have:=zan t0 1 1 (by omega);rwa [Nat.zero_add]at this
    exact za1 m.e r0 t1
  have hput3:∀(X:World) b,X.rangeAt b 0 ({({(Ms.plain 1 0 0 Vt.zero zeros32)with q:=m.q,rs:=m.rs}:Ms)with e:=m.e}:Ms).cells→X.there b 0 119→(X.setCells b 4 ([.int .i64 m.s])).rangeAt b 0 m.bare1.cells:=fun X b r0 t0=>by
    have t1:X.there b 4 1:=by have:=zan t0 4 1 (by omega);rwa [Nat.zero_add]at this
    exact zbQ m.s r0 t1
  have im:(prog.info? 52).map (·.size)=some m.bare1.cells.length:=by rw[ld];exact iszM
  have im':(prog.info? 52).map (·.size)=some m.bare1.cells.toArray.size:=by rw[List.size_toArray,ld];exact iszM
  have ik':(prog.info? 52).map (·.size)=some (Ms.plain 1 0 0 Vt.zero zeros32).cells.toArray.size:=by rw[List.size_toArray,lk];exact iszM
  have l_b:([.bool m.q,m.rs]).length=2:=rfl
  have o_b:=all_oneCell_toArray (cs:=[.bool m.q,m.rs]) (fun v hv=>by simp only[List.mem_cons,List.not_mem_nil,or_false]at hv;rcases hv with rfl|rfl<;>first|rfl|exact hm.rs)
  have i_b:(prog.info? 39).map (·.size)=some ([.bool m.q,m.rs]).length:=by rw[l_b];exact iszB
  have j_b:(prog.info? 39).map (·.size)=some ([.bool m.q,m.rs]).toArray.size:=by rw[List.size_toArray,l_b];exact iszB
  clear oc hz0 od hm hk
  generalize m.bare1.cells=qr at *
  generalize ({(Ms.plain 1 0 0 Vt.zero zeros32)with q:=m.q,rs:=m.rs}:Ms).cells=C1 at *
  generalize ({({(Ms.plain 1 0 0 Vt.zero zeros32)with q:=m.q,rs:=m.rs}:Ms)with e:=m.e}:Ms).cells=C2 at *
  generalize m.cells=q at *
  generalize (Ms.plain 1 0 0 Vt.zero zeros32).cells=qk at *
  generalize Ms.zero.cells=z at *
  generalize ([.bool m.q,m.rs])=u_b at *
  generalize m.e=x_e at *
  generalize m.s=x_s at *
  obtain⟨hA,hT,hB,hs⟩:=zdK q z w lz
  go_enter func85,ntmps85
  go_upto_region 1 with fail
  go_name_world w1 hw1
  rw[show(w.alloc (.cells q.toArray 52)).alloc (.cells z.toArray 52)=w1 from hw1]at hA hT hB hs
  clear hw1
  have c0:=(hat _ _ hA).1
  obtain⟨r2,hB2,hs2,hT2⟩:=zA w1 z.toArray 52 qk (by rw[List.size_toArray,lz,lk])
  rw[show z.toArray.size=119 by simpa using lz]at hT2
  have hTz:(w1.alloc (.cells z.toArray 52)).there w1.heap.size 0 qk.toArray.size:=by
    have:=zK w1 z.toArray 52
    rw[show z.toArray.size=119 by simpa using lz]at this
    rw[show qk.toArray.size=119 by simpa using lk]
    exact this
  go_upto_region 2 with(first|(refine zbI rfl 52 [(0,.tmp 5)] rfl [(0,.int .i64 1)] _ rfl (hbk _) ?_)|refine wpList_store_mid rfl 52 _ _ rfl _ _ qk.toArray rfl rfl hTz ik' ok ?_)
  go_name_world w2 hw2
  rw[show(w1.alloc (.cells z.toArray 52)).setCells w1.heap.size 0 qk=w2 from hw2]at r2 hB2 hs2 hT2
  have hs2':w1.heap.size<w2.heap.size:=by omega
  clear hw2 hs2 hTz
  have H:Bst w w2 w1.heap.size q:=⟨zd hA hB2 (by omega),hT2,zq hT hB2 (by omega),hB.trans (hB2.mono (by omega)),hs,hs2'⟩
  clear hA hT hB hB2 c0 hT2
  have F_b:=(hat _ _ H.A).2.1
  have ck:=(hat _ _ H.A).1
  have P_b:=H.part 5 2 (by omega)
  have Q_b:w2.there w1.heap.size 5 u_b.toArray.size:=by rw[show u_b.toArray.size=2 by simpa using l_b];exact P_b
  go_upto_region 12 with(first|(refine wpList_load_mid rfl 39 _ rfl _ _ rfl u_b _ F_b underlying39 rfl i_b ?_)|(refine wpList_store_mid rfl 39 _ _ rfl _ _ u_b.toArray rfl rfl Q_b j_b o_b ?_))
  have r2:=hput1 _ _ r2 H.T
  replace H:=H.put 5 (u_b)
  clear F_b P_b Q_b
  obtain⟨w5,hw5⟩:∃w5,((w2).setCells w1.heap.size 5 (u_b)).drew=w5:=⟨_,rfl⟩
  have hBd:Below ((w2).setCells w1.heap.size 5 (u_b)).heap.size ((w2).setCells w1.heap.size 5 (u_b)) w5:=by rw[←hw5];exact(Below.refl _ _).drew
  have r2:=zd r2 hBd H.hs
  replace H:=H.below hBd
  refine zG (S:=fun w'=>w'.rangeAt w.heap.size 0 q) 8 rfl (by kernel_rfl) ?_
  rw[hw5]
  have hS:=H.A
  have h02:=H.h2
  refine hs_t 0 28 (?_) rfl (by kernel_rfl) (by kernel_rfl) (by kernel_rfl) (by rfl) ?_ hS rfl ?_
  rotate_left
  · intro w' hw
    go_simp
    try with_reducible rfl
  simp only[nz]
  refine hs_t 1 29 (.int .i64 x_e) rfl (by kernel_rfl) (by kernel_rfl) (by kernel_rfl) (by rfl) (fun w' hw=>zX rfl rfl (loadC w' ((hat _ _ hw).2.2.1) underlying3 rfl)) hS rfl ?_
  simp only[nz]
  refine hs_t 2 30 (?_) rfl (by kernel_rfl) (by kernel_rfl) (by kernel_rfl) (by rfl) ?_ hS rfl ?_
  rotate_left
  · intro w' hw
    go_simp
    try with_reducible rfl
  simp only[nz]
  refine hs_t 3 31 (.int .i64 x_s) rfl (by kernel_rfl) (by kernel_rfl) (by kernel_rfl) (by rfl) (fun w' hw=>zX rfl rfl (loadC w' ((hat _ _ hw).2.2.2) underlying3 rfl)) hS rfl ?_
  simp only[nz]
  refine hs_t 4 32 (?_) rfl (by kernel_rfl) (by kernel_rfl) (by kernel_rfl) (by rfl) ?_ hS rfl ?_
  rotate_left
  · intro w' hw
    go_simp
    try with_reducible rfl
  simp only[nz]
  refine zU (i:=5) (w':=(w5).setCells w1.heap.size 1 ([.int .i64 x_e])) rfl (by kernel_rfl) (by rfl) (zfO rfl rfl rfl (zem _ _ _ _ (.int .i64 x_e) (H.part 1 1 (by omega)) iszI rfl rfl)) rfl (H.put 1 ([.int .i64 x_e])).A ?_
  have r2:=hput2 _ _ r2 H.T
  replace H:=H.put 1 ([.int .i64 x_e])
  have hS:=H.A
  refine hs_t 6 33 (?_) rfl (by kernel_rfl) (by kernel_rfl) (by kernel_rfl) (by rfl) ?_ hS rfl ?_
  rotate_left
  · intro w' hw
    go_simp
    try with_reducible rfl
  simp only[nz]
  refine zU (i:=7) (w':=((w5).setCells w1.heap.size 1 ([.int .i64 x_e])).setCells w1.heap.size 4 ([.int .i64 x_s])) rfl (by kernel_rfl) (by rfl) (zfO rfl rfl rfl (zem _ _ _ _ (.int .i64 x_s) (H.part 4 1 (by omega)) iszI rfl rfl)) rfl (H.put 4 ([.int .i64 x_s])).A ?_
  have r2:=hput3 _ _ r2 H.T
  replace H:=H.put 4 ([.int .i64 x_s])
  have hS:=H.A
  refine zE (by kernel_rfl) ?_
  clear hBd
  go_upto_region 20 with fail
  go_name_world w3 hw3
  rw[show((w5).setCells w1.heap.size 1 ([.int .i64 x_e])).setCells w1.heap.size 4 ([.int .i64 x_s])=w3 from hw3]at r2 H
  clear hw3
  have hT3:w3.there (w.heap.size+1) 0 qr.toArray.size:=by
    rw[show qr.toArray.size=119 by simpa using ld]
    exact H.T1
  have hB3:=H.B
  have r4:=World.rangeAt_setCells_same w3 (w.heap.size+1) 0 qr (by have:=hT3;rwa [List.size_toArray]at this)
  have hB4:=zi (show w.heap.size≤w.heap.size+1 by omega) qr 0 _ hB3
  have hrs:=run_loadVar_mid (P:=prog) _ (w.heap.size+1) 0 52 qr _ r4 underlying52 rfl im
  go_wp2_with (first|(refine wpList_load_mid rfl 52 _ rfl _ _ rfl qr _ r2 underlying52 rfl im ?_)|(refine wpList_store_mid rfl 52 _ _ rfl _ _ qr.toArray rfl rfl hT3 im' om ?_))
  exact bodyPost_ret (v:=.agg qr.toArray) (by simp[results,results85,asAddr,hrs,Act.put]) rfl ⟨rfl,hB4⟩
def Ms.bare2 (m:Ms):Ms:={Ms.plain 2 0 0 Vt.zero zeros32 with vt:=m.vt}
end Go.Proofs.YtcbpbkefggekmaaGreatDoor
