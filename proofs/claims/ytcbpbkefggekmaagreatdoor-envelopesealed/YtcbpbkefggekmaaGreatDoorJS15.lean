/- the document's Mac; requests: their fields, their body, whether they may be; seal.Keys: Len, Sign, Check: contracts; requests: the body, the program's and the d -/
import Derived.Test.YtcbpbkefggekmaaGreatDoorJS0
import Derived.Test.YtcbpbkefggekmaaGreatDoorJS5
import Derived.Test.YtcbpbkefggekmaaGreatDoorJS12
import Derived.Test.YtcbpbkefggekmaaGreatDoorJS14
import Derived.Test.YtcbpbkefggekmaaGreatDoorJS3
import Derived.Test.YtcbpbkefggekmaaGreatDoorJS1
import Derived.Test.YtcbpbkefggekmaaGreatDoorJS4
import Derived.Laws.IdiomStrings
import Derived.Lib.SlBytesConst
set_option maxHeartbeats 2000000
set_option maxRecDepth 100000
open Go.Proofs.Tryz
namespace Go.Proofs.YtcbpbkefggekmaaGreatDoor.Qs
open Go.RowKit
open Sha
theorem zhd {P:Program} {o:Oper} {a:Act} {w w':World} {s x:Operand} {t tx:TypeId} {v xv v':Value} (ho:o.op=.call {callee:=.builtin .append,args:=#[s,x],argTypes:=#[t,tx]}) (hv:a.eval s=v) (hx:a.eval x=xv)
    (hr:(Builtin.append_ #[t,tx] o.type #[v,xv]).run P w=.ok v' w'):(execOp a.eval o).run P w=.ok (.value v') w':=by
  unfold execOp
  simp only[ho,resolve,invoke,builtin,Sem.run_bind,Sem.run_pure,Result.andThen_ok,List.map_toArray,List.map_cons,List.map_nil,hv,hx,hr]
theorem zns {w:World} {B:Nat} {v:Value} {zs ys:List Int} {a:Option Addr} {cap:Nat} (ty:TypeId) (hB:B≤w.heap.size) (ho:w.ownsRow B 5 1 v zs.length (v8 zs)) (hz:∀z∈zs,0≤z∧z<256) (hy:RowAt w a ys) (hl:zs.length+ys.length≤10000000):
  ∃a' cap' w',(Builtin.append_ #[59,59] ty #[v,.slice a ys.length cap]).run prog w=.ok (.slice a' (zs++ys).length cap') w'∧w'.ownsRow B 5 1 (.slice a' (zs++ys).length cap') (zs++ys).length (v8 (zs++ys))∧RowAt w' a' (zs++ys)∧(zs++ys).length≤cap'∧cap'≤maxLen∧w.grownBy w' v.ownBlock:=by
 obtain⟨i0,hi,hz0,hz1,hz2⟩:=zW zat
 obtain⟨v',w',hr,hown,hgr⟩:=zfM (P:=prog) w B 59 59 ty 5 i0 (.int .u8 0) 1 1 underlying59 hi hz0 hz1 hz2 rfl v zs.length (v8 zs) ho (.slice a ys.length cap) ys.length (v8 ys) (hy.src cap) (by unfold maxLen;omega) (by omega) hB
 rw[←zS,←List.length_append]at hown
 obtain⟨a',cap',rfl,h1,h2,h3⟩:=zbV hown (fun z hz'=>by
  rcases List.mem_append.1 hz' with q|q
  ·exact hz z q
  ·exact hy.2.1 z q) (by rw[List.length_append];unfold maxLen;omega)
 exact⟨a',cap',w',hr,hown,h3,h1,h2,hgr⟩
theorem zbU {w:World} {B:Nat} {e:TypeId} {v:Value} {n:Nat} {xs:List Value} (h:w.ownsRow B e 1 v n xs):∀k,v.ownBlock=some k→B≤k:=by
 intro k hk
 rcases h.2 with⟨rfl,_⟩|⟨g,cap,cur,rfl,hb,_⟩
 ·simp[Value.ownBlock]at hk
 ·have:g=k:=by simpa [Value.ownBlock]using hk
  omega
theorem zjX (ka:Option Addr) (kc:Nat) (key:List Int) (a:Option Addr) (cap:Nat) (zs:List Int) (w:World) (hk:RowAt w ka key) (hkl:key.length≤900000) (h:RowAt w a zs) (hl:zs.length≤900000):
   Calls prog 59 #[.slice ka key.length kc,.slice a zs.length cap] w fun e w'=>e=.returned (.agg (v8 (mac key zs)).toArray)∧Below w.heap.size w w':=by
  have hB0:Below w.heap.size w (w.alloc (.cells (Array.replicate 32 (.int .u8 0)) 41)):=(Below.refl _ _).alloc (Nat.le_refl _) _
  have hT0:=(zaq w 32 41).2
  have cp:=zgg ka kc key 54 _ (hk.below hB0) (by omega)
  obtain⟨k1,hk1⟩:∃k1,Hid (xorL 54 (macBlock key)=k1):=⟨_,rfl⟩
  have hl1:k1.length=64:=by rw[←hk1.out,zaY];exact zbY key
  have ho1:∀z∈k1,0≤z∧z<256:=by rw[←hk1.out];exact zdt _ _
  obtain⟨k2,hk2⟩:∃k2,Hid (xorL 92 (macBlock key)=k2):=⟨_,rfl⟩
  have hl2:k2.length=64:=by rw[←hk2.out,zaY];exact zbY key
  have ho2:∀z∈k2,0≤z∧z<256:=by rw[←hk2.out];exact zdt _ _
  have HM:Hid (mac key zs=sha (k2++sha (k1++zs))):=by rw[←hk1.out,←hk2.out];rfl
  rw[hk1.out]at cp
  clear hk1
  go_enter func59,ntmps59
  go_wp2_with fail
  refine cp.mono ?_
  rintro e w1 ⟨v1,rfl,hown1,hw1⟩
  clear cp
  have hB1:=hB0.trans (hw1.mono hB0.size)
  have hs1:=hw1.size
  have hT1:=zg hT0 hw1 (by simp)
  have hown1':w1.ownsRow (w.heap.size+1) 5 1 v1 k1.length (v8 k1):=by rw[hl1];simpa using hown1
  simp only[World.size_alloc]at hs1
  obtain⟨i0,hi,hz0,hz1,hz2⟩:=zW zat
  have hsrc:=(h.below hB1).src cap
  go_wp2_with (at_builtin;refine zK _ rfl _ _ 59 59 rfl (w.heap.size+1) 5 i0 (.int .u8 0) 1 1 underlying59 hi hz0 hz1 hz2 rfl _ k1.length _ rfl hown1' _ zs.length _ rfl hsrc ?c1 ?c2 ?c3 ?_)
  case c1=>unfold maxLen;omega
  case c2=>omega
  case c3=>omega
  intro v2 w2 hown2 hgr2
  have e12:64+zs.length=(k1++zs).length:=by rw[List.length_append,hl1]
  rw[←zS,e12]at hown2
  clear e12
  obtain⟨a2,cap2,rfl,_,_,hrow2⟩:=zbV hown2 (fun z hz'=>by
    rcases List.mem_append.1 hz' with q|q
    · exact ho1 z q
    · exact h.2.1 z q) (by rw[List.length_append];unfold maxLen;omega)
  clear hi hz0 hz1 hz2 hsrc
  have hB2a:Below (w.heap.size+1) w1 w2:=(Below.refl _ _).grown hgr2 (by omega) (zbU hown1')
  have hB2:Below w.heap.size w w2:=hB1.trans (hB2a.mono (by omega))
  have hT2:=zg hT1 hB2a (by omega)
  have hs2:=hB2a.size
  have c2:=zcT a2 cap2 (k1++zs) w2 hrow2 (by rw[List.length_append];omega)
  obtain⟨d,hd⟩:∃d,Hid (sha (k1++zs)=d):=⟨_,rfl⟩
  have hdl:d.length=32:=by rw[←hd.out];exact za0 _
  have hdo:∀z∈d,0≤z∧z<256:=by rw[←hd.out];exact zbP _
  rw[hd.out]at c2 HM
  clear hd hown1 hown1' hown2 hgr2 hrow2
  generalize (k1++zs).length=n2 at *
  go_wp2_with fail
  refine c2.mono ?_
  rintro e w3 ⟨rfl,hw3⟩
  clear c2
  have hB3:=hB2.trans (hw3.mono hB2.size)
  have hT3:=zg hT2 hw3 (by omega)
  have hs3:=hw3.size
  have F:=zq w3 (Array.replicate 32 (.int .u8 0)) 41 (v8 d) (by rw[v8_length,hdl];rfl)
  have hN:=zcK w3 d hdl
  have hi:=zbn d hdl
  have h1c:=all_oneCell_toArray (zy d)
  go_upto_region 2 with(refine wpList_store_mid (op:=⟨none,.store 41 (.tmp 5) (.tmp 10),_,_,_,none⟩) rfl 41 _ _ rfl _ _ (v8 d).toArray rfl rfl hN hi h1c ?_)
  go_name_world w4 hw4
  rw[show(w3.alloc (.cells (Array.replicate 32 (.int .u8 0)) 41)).setCells w3.heap.size 0 (v8 d)=w4 from hw4]at F
  obtain⟨hR4,hB4',hz4',_⟩:=F
  have hz4:w3.heap.size<w4.heap.size:=by omega
  clear hz4' hw4 hN h1c hw3
  have hB4:=hB3.trans (hB4'.mono hB3.size)
  have hT4:=zg hT3 hB4' (by omega)
  try simp only[Act.put]
  obtain⟨I,hI⟩:∃I,w3.heap.size=I:=⟨_,rfl⟩
  rw[hI]at hR4 hz4 ⊢
  have hIl:w.heap.size<I:=by omega
  clear hI hB4' hT3 hT2 hT1 hT0 hB3 hB2a hB2 hB1 hB0 hs1 hs2 hs3
  have hi':(prog.info? 41).map (·.size)=some (v8 d).length:=by simpa using hi
  go_wp2_with fail
  refine zw (S:=(fun W:World=>W.rangeAt I 0 (v8 d))) 7 rfl (by kernel_rfl) ?_
  have hS:(fun W:World=>W.rangeAt I 0 (v8 d)) w4.drew:=(World.rangeAt_drew _ _ _ _).2 hR4
  have hB5:Below w.heap.size w w4.drew:=hB4.drew
  have hT5:w4.drew.there w.heap.size 0 32:=hT4
  have hz5:I<w4.drew.heap.size:=hz4
  generalize w4.drew=w5 at hS hB5 hT5 hz5 ⊢
  refine hs_a 0 11 hS ?_
  refine hs_v 2 13 (.agg (v8 d).toArray) rfl (fun w' hw=>zcr rfl rfl (run_loadVar_mid (P:=prog) w' I 0 41 (v8 d) _ hw underlying41 rfl hi')) hS ?_
  have cp:=zgg ka kc key 92 w5 (hk.below hB5) (by omega)
  rw[hk2.out]at cp
  refine hs_c 1 12 ?_
  refine(cp).mono ?_
  rintro e' w6 ⟨v6,rfl,hown6,hw6⟩
  have hS:(fun W:World=>W.rangeAt I 0 (v8 d)) w6:=za hS hw6 hz5
  refine⟨_,rfl,hS,?_⟩
  simp only[nz]
  have hB6:=hB5.trans (hw6.mono hB5.size)
  have hT6:=zg hT5 hw6 (by omega)
  have hs6:=hw6.size
  clear cp
  refine hs_c 3 14 ?_
  refine(zeC d w6 hdl).mono ?_
  rintro e' w7 ⟨v7,rfl,hown7,hw7⟩
  have hS:(fun W:World=>W.rangeAt I 0 (v8 d)) w7:=za hS hw7 (by omega)
  refine⟨_,rfl,hS,?_⟩
  simp only[nz]
  have hB7:=hB6.trans (hw7.mono hB6.size)
  have hT7:=zg hT6 hw7 (by omega)
  have hs7:=hw7.size
  have hown6':w7.ownsRow w5.heap.size 5 1 v6 k2.length (v8 k2):=by rw[hl2];exact zbj hown6 hw7
  obtain⟨a7,cap7,rfl,_,_,hrow7⟩:=zbV hown7 hdo (by rw[hdl];unfold maxLen;omega)
  obtain⟨a8,cap8,w8,hr8,hown8,hrow8,_,_,hgr8⟩:=zns (cap:=cap7) 59 (by omega) hown6' ho2 hrow7 (by omega)
  have hB8a:Below w5.heap.size w7 w8:=(Below.refl _ _).grown hgr8 (by omega) (zbU hown6')
  have hB8:Below w.heap.size w w8:=hB7.trans (hB8a.mono hB5.size)
  have hT8:=zg hT7 hB8a (by omega)
  have hs8:=hB8a.size
  have hS:(fun W:World=>W.rangeAt I 0 (v8 d)) w8:=za hS hB8a (by omega)
  refine zbo (i:=4) (d:=some 15) (v:=.slice a8 (k2++d).length cap8) (w':=w8) rfl (by kernel_rfl) (by rfl) (zhd rfl rfl rfl hr8) rfl hS ?_
  simp only[nz]
  have c9:=zcT a8 cap8 (k2++d) w8 hrow8 (by rw[List.length_append];omega)
  obtain⟨m,hm⟩:∃m,Hid (sha (k2++d)=m):=⟨_,rfl⟩
  have hml:m.length=32:=by rw[←hm.out];exact za0 _
  rw[hm.out]at c9 HM
  clear hr8
  generalize (k2++d).length=n8 at *
  refine hs_c 5 16 ?_
  refine(c9).mono ?_
  rintro e' w9 ⟨rfl,hw9⟩
  have hS:(fun W:World=>W.rangeAt I 0 (v8 d)) w9:=za hS hw9 (by omega)
  refine⟨_,rfl,hS,?_⟩
  simp only[nz]
  have hB9:=hB8.trans (hw9.mono hB8.size)
  have hT9:=zg hT8 hw9 (by omega)
  have hT9':w9.there w.heap.size 0 (v8 m).toArray.size:=by
    have e:(v8 m).toArray.size=32:=by rw[List.size_toArray,v8_length,hml]
    rw[e];exact hT9
  have hst:=run_storeVar_mid (P:=prog) w9 w.heap.size 0 41 (v8 m).toArray hT9' (zbn m hml) (all_oneCell_toArray (zy m))
  have hSn:=World.rangeAt_setCells_apart hS w.heap.size 0 (v8 m) (Or.inl (by omega))
  refine zG (i:=6) (w':=w9.setCells w.heap.size 0 (v8 m)) rfl (by kernel_rfl) (by rfl) (zbG rfl rfl rfl hst) rfl hSn ?_
  refine zv (by kernel_rfl) ?_
  have hRr:=World.rangeAt_setCells_same w9 w.heap.size 0 (v8 m) (by rw[v8_length,hml];exact hT9)
  have hBl:=zi (Nat.le_refl w.heap.size) (v8 m) 0 w9 hB9
  have hrs:=run_loadVar_mid (P:=prog) (w9.setCells w.heap.size 0 (v8 m)) w.heap.size 0 41 (v8 m) _ hRr underlying41 rfl (by simpa using zbn m hml)
  go_wp2
  refine bodyPost_ret (v:=.agg (v8 m).toArray) (by simp[results,results59,asAddr,hrs]) rfl ⟨by rw[HM.out],hBl⟩
end Go.Proofs.YtcbpbkefggekmaaGreatDoor.Qs
namespace Go.Proofs.YtcbpbkefggekmaaGreatDoor.Rk
open Qs
open Go.RowKit
open Sha Tal
def bodyL (c n:Int) (s:ByteArray):List Int:=[82]++putL c++putL n++textL s
theorem zkW (c n m:Int) (s:ByteArray) (t:List Int) (w:World):
   Calls prog 61 #[.agg (reqL c n s t).toArray,.int .i64 m] w fun e w'=>e=.returned (.bool (decide (0≤c∧c<m∧1≤n∧n≤1099511627776∧s.size≤64)))∧Below w.heap.size w w':=by
  have hB1:Below w.heap.size w (w.alloc (.cells (reqL c n s t).toArray 81)):=(Below.refl _ _).alloc (Nat.le_refl _) _
  obtain⟨h0,h1,h2⟩:=zbS (zcS w c n s t)
  generalize reqL c n s t=q at *
  by_cases a1:c<0
  · have e:decide (0≤c∧c<m∧1≤n∧n≤1099511627776∧s.size≤64)=false:=by simp;omega
    rw[e];clear e
    go_enter func61,ntmps61
    go_wp2
    go_ret
    exact⟨rfl,hB1⟩
  · by_cases a2:m≤c
    · have e:decide (0≤c∧c<m∧1≤n∧n≤1099511627776∧s.size≤64)=false:=by simp;omega
      rw[e];clear e
      go_enter func61,ntmps61
      go_wp2
      go_ret
      exact⟨rfl,hB1⟩
    · by_cases a3:n<1
      · have e:decide (0≤c∧c<m∧1≤n∧n≤1099511627776∧s.size≤64)=false:=by simp;omega
        rw[e];clear e
        go_enter func61,ntmps61
        go_wp2
        go_ret
        exact⟨rfl,hB1⟩
      · by_cases a4:1099511627776<n
        · have e:decide (0≤c∧c<m∧1≤n∧n≤1099511627776∧s.size≤64)=false:=by simp;omega
          rw[e];clear e
          go_enter func61,ntmps61
          go_wp2
          go_ret
          exact⟨rfl,hB1⟩
        · have e : decide (0 ≤ c ∧ c < m ∧ 1 ≤ n ∧ n ≤ 1099511627776 ∧ s.size ≤ 64) = decide ((s.size : Int) ≤ 64) := by
            rw[decide_eq_decide];omega
          rw[e];clear e
          go_enter func61,ntmps61
          go_wp2
          go_ret
          exact⟨rfl,hB1⟩
end Go.Proofs.YtcbpbkefggekmaaGreatDoor.Rk
namespace Go.Proofs.YtcbpbkefggekmaaGreatDoor.Qs
open Go.RowKit
open Sha Tal
theorem zfk (s:ByteArray) (w:World) (hs:s.size≤1000000):∃cap w',(convert 9 59 (.string s)).run prog w=.ok (.slice (some ⟨w.heap.size,0,none⟩) s.size cap) w'∧RowAt w' (some ⟨w.heap.size,0,none⟩) (strL s)∧s.size≤cap∧cap≤maxLen∧Below w.heap.size w w'∧w.heap.size<w'.heap.size:=by
 refine⟨_,_,run_bytes_of_string w 9 59 5 s underlying9 underlying59 underlying5,?_,grownCap_ge _ _ _ _,grownCap_le_maxLen _ _ _ _ (by unfold maxLen;omega),((Below.refl _ _).drew).alloc (Nat.le_refl _) _,by simp⟩
 refine⟨by rw[zN];unfold maxLen;omega,zbt s,Or.inr ⟨_,0,rfl,by simp,?_⟩⟩
 have:=zj7 w.drew (bytesRow s (grownCap w s.size 0 5)) 5 ((bytesRow s (grownCap w s.size 0 5)).size,(bytesRow s (grownCap w s.size 0 5)).size+1)
 have e:(bytesRow s (grownCap w s.size 0 5)).toList=v8 (strL s)++List.replicate (grownCap w s.size 0 5 - s.size) (.int .u8 0):=by
  simp[bytesRow,v8,strL]
 rw[e]at this
 exact zI this
def KeysAt (w:World) (p:Option Addr) (ds:List (List Int)):Prop:=
 (p=none∧ds=[])∨∃K a cap,p=some ⟨K,0,none⟩∧K<w.heap.size∧w.cell? ⟨K,0,none⟩=some (.slice a ds.length cap)∧ds.length≤4096∧(∀d∈ds,d.length=32∧∀z∈d,0≤z∧z<256)∧
  (ds=[]∨∃D,a=some ⟨D,0,none⟩∧D<w.heap.size∧∀i d,ds[i]? =some d→w.rangeAt D (i*32) (v8 d))
theorem KeysAt.below {w w':World} {p:Option Addr} {ds:List (List Int)} (h:KeysAt w p ds) (hb:Below w.heap.size w w'):KeysAt w' p ds:=by
 rcases h with h|⟨K,a,cap,rfl,hK,hc,hl,hd,hr⟩
 ·exact .inl h
 ·refine .inr ⟨K,a,cap,rfl,Nat.lt_of_lt_of_le hK hb.size,(hb.cell (p:=⟨K,0,none⟩) hK).trans hc,hl,hd,?_⟩
  rcases hr with hr|⟨D,rfl,hD,hr⟩
  ·exact .inl hr
  ·exact .inr ⟨D,rfl,Nat.lt_of_lt_of_le hD hb.size,fun i d hi=>za (hr i d hi) hb hD⟩
theorem KeysAt.len {w:World} {p:Option Addr} {ds:List (List Int)} (h:KeysAt w p ds):ds.length≤4096:=by
 rcases h with⟨_,rfl⟩|⟨K,a,cap,_,_,_,hl,_⟩
 ·simp
 ·exact hl
theorem zbl (p:Option Addr) (ds:List (List Int)) (w:World) (h:KeysAt w p ds):Calls prog 28 #[.pointer p] w fun e w'=>e=.returned (.int .i64 (ds.length:Int))∧w'=w:=by
 rcases h with⟨rfl,rfl⟩|⟨K,a,cap,rfl,hK,hc,hl,hd,hr⟩
 ·go_enter func28,ntmps28
  go_wp2
  go_ret
  exact⟨rfl,rfl⟩
 ·clear hr hd
  go_enter func28,ntmps28
  go_wp2
  go_ret
  exact⟨rfl,rfl⟩
def signOf (ds:List (List Int)) (id:Int) (body:ByteArray):List Int ×Int:=
 if ds=[]then(zj,1)else if id<0∨(ds.length:Int)≤id then(zj,2)else((mac (ds.getD id.toNat []) (strL body)).take 16,0)
theorem zaN (ds:List (List Int)) (id:Int) (body:ByteArray):(signOf ds id body).1.length=16:=by
 unfold signOf
 split
 ·rfl
 ·split
  ·rfl
  ·simp[zed]
theorem zca (ds:List (List Int)) (id:Int) (body:ByteArray):∀z∈(signOf ds id body).1,0≤z∧z<256:=by
 unfold signOf
 split
 ·decide
 ·split
  ·decide
  ·intro z hz;exact zkY _ _ z (List.mem_of_mem_take hz)
theorem znr (b:Nat) (w:World):(Instr.arrayAt 23 (.slice (some ⟨b,0,none⟩) 16 32)).run prog w=.ok (.pointer (some ⟨b,0,none⟩)) w:=by kernel_rfl
theorem zaC (t:List Int) (h:t.length=16):(prog.info? 23).map (·.size)=some (v8 t).toArray.size:=by rw[List.size_toArray,v8_length,h];exact iszT
theorem zdb {w:World} {b o:Nat} {t:List Int} (h:t.length=16) (hr:w.rangeAt b o (v8 t)):(loadVar 23 ⟨b,o,none⟩).run prog w=.ok (.agg (v8 t).toArray) w:=
 run_loadVar_mid (P:=prog) w b o 23 (v8 t) _ hr underlying23 rfl (by simpa using zaC t h)
theorem zee (p:Option Addr) (ds:List (List Int)) (id:Int) (body:ByteArray) (w:World) (hG:Glob w) (h:KeysAt w p ds) (hb:ds=[]∨body.size≤100000):
    Calls prog 29 #[.pointer p,.int .i64 id,.string body] w fun e w'=>e=.returned (.tuple #[.agg (v8 (signOf ds id body).1).toArray,.int .i64 (signOf ds id body).2])∧Below w.heap.size w w':=by
  have hB0:Below w.heap.size w (w.alloc (.cells (Array.replicate 16 (.int .u8 0)) 23)):=(Below.refl _ _).alloc (Nat.le_refl _) _
  have cl:=zbl p ds _ (h.below hB0)
  have hR0:(w.alloc (.cells (Array.replicate 16 (.int .u8 0)) 23)).rangeAt w.heap.size 0 (v8 zj):=(zaq w 16 23).1
  have hrs:=zdb (t:=zj) rfl hR0
  by_cases h0:ds=[]
  · subst h0
    have HS:Hid (signOf [] id body=(zj,1)):=by show _=_;simp[signOf]
    rw[HS.out]
    clear HS
    go_enter func29,ntmps29
    go_wp2_with (go_at_call 28;refine cl.mono ?_;rintro e w1 ⟨rfl,rfl⟩)
    exact bodyPost_ret (v:=.tuple #[.agg (v8 zj).toArray,.int .i64 1]) (by simp[results,results29,asAddr,hrs]) rfl ⟨rfl,hB0⟩
  · have hb:=hb.resolve_left h0
    have hpos:0<ds.length:=List.length_pos_iff.2 h0
    have hne:((ds.length:Int)==0)=false:=by simp;omega
    have h4:=h.len
    by_cases h1:id<0∨(ds.length:Int)≤id
    · have HS:Hid (signOf ds id body=(zj,2)):=by show _=_;simp[signOf,h0,h1]
      rw[HS.out]
      clear HS
      rcases h1 with h1|h1
      · clear h0 h
        go_enter func29,ntmps29
        go_wp2_with (go_at_call 28;refine cl.mono ?_;rintro e w1 ⟨rfl,hx⟩;obtain rfl:=hx.symm;clear hx)
        exact bodyPost_ret (v:=.tuple #[.agg (v8 zj).toArray,.int .i64 2]) (by simp[results,results29,asAddr,hrs]) rfl ⟨rfl,hB0⟩
      · have h1':¬id<0:=by omega
        clear h0 h
        go_enter func29,ntmps29
        go_wp2_with (go_at_call 28;refine cl.mono ?_;rintro e w1 ⟨rfl,hx⟩;obtain rfl:=hx.symm;clear hx)
        exact bodyPost_ret (v:=.tuple #[.agg (v8 zj).toArray,.int .i64 2]) (by simp[results,results29,asAddr,hrs]) rfl ⟨rfl,hB0⟩
    · obtain⟨k,rfl⟩:=Int.eq_ofNat_of_zero_le (show 0≤id by omega)
      have hk:k<ds.length:=by omega
      have h1a:¬(k:Int)<0:=by omega
      have h1b:(k:Int)<ds.length:=by omega
      have HS:Hid (signOf ds (k:Int) body=((mac ds[k] (strL body)).take 16,0)):=by
        show _=_
        simp only[signOf,h0,h1,if_false,Int.toNat_natCast,List.getD_eq_getElem?_getD,List.getElem?_eq_getElem hk,Option.getD_some]
      rw[HS.out]
      clear HS h1
      obtain ⟨K, a, cap, rfl, hK, hc, _, hd, hr⟩ : ∃ K a cap, p = some ⟨K, 0, none⟩ ∧ K < w.heap.size ∧ w.cell? ⟨K, 0, none⟩ = some (.slice a ds.length cap) ∧ ds.length ≤ 4096 ∧ (∀ d ∈ ds, d.length = 32 ∧ ∀ z ∈ d, 0 ≤ z ∧ z < 256) ∧
          (ds=[]∨∃D,a=some ⟨D,0,none⟩∧D<w.heap.size∧∀i d,ds[i]? =some d→w.rangeAt D (i*32) (v8 d)):=by
        rcases h with⟨_,e⟩|q
        · exact absurd e h0
        · exact q
      obtain⟨D,rfl,hD,hr⟩:=hr.resolve_left h0
      have hrk:=hr k ds[k] (List.getElem?_eq_getElem hk)
      obtain⟨hdl,hdo⟩:=hd ds[k] (List.getElem_mem hk)
      obtain⟨d,hd'⟩:∃d,Hid (ds[k]=d):=⟨_,hide rfl⟩
      rw[hd'.out]at hrk hdl hdo ⊢
      clear hr hd h0 h
      have hc1:=(hB0.cell (p:=⟨K,0,none⟩) hK).trans hc
      clear hrs hR0
      have hT0:=(zaq w 16 23).2
      obtain⟨cap2,w2,hcv,hrow2,hc2a,hc2b,hw2,hs2⟩:=zfk body (w.alloc (.cells (Array.replicate 16 (.int .u8 0)) 23)) (by omega)
      simp only[World.size_alloc]at hcv hrow2 hw2 hs2
      have hB2:Below w.heap.size w w2:=hB0.trans (hw2.mono (by omega))
      have hT2:=zg hT0 hw2 (by omega)
      have hat:(⟨some ⟨w.heap.size+1,0,none⟩,cap2,strL body⟩:Part).at w2:=⟨hrow2,by show(strL body).length≤cap2;rw[zN];exact hc2a,hc2b⟩
      have hP:=zc3 w2 #[.slice (some ⟨w.heap.size+1,0,none⟩) body.size cap2] _ hat (by simp only[Part.val,zN])
      have hBp:Below w2.heap.size w2 (w2.alloc (.cells #[.slice (some ⟨w.heap.size+1,0,none⟩) body.size cap2] 59)):=(Below.refl _ _).alloc (Nat.le_refl _) _
      have hB3:=hB2.trans (hBp.mono hB2.size)
      have hkr:RowAt w (some ⟨D,k*32,none⟩) d:=⟨by rw[hdl];unfold maxLen;omega,hdo,Or.inr ⟨_,_,rfl,hD,hrk⟩⟩
      have ec:cat [(⟨some ⟨w.heap.size+1,0,none⟩,cap2,strL body⟩:Part)]=strL body:=by simp[cat]
      have cm:=zkZ (some ⟨D,k*32,none⟩) 32 d _ 1 _ _ (hG.below hB3) (hkr.below hB3) (by omega) (by unfold maxLen;omega) (by omega) hP (by rw[ec,zN];omega) (by simp)
      rw[ec,hdl]at cm
      simp only[List.length_cons,List.length_nil,Nat.zero_add]at cm
      obtain⟨m,hm⟩:∃m,Hid (mac d (strL body)=m):=⟨_,hide rfl⟩
      have hml:m.length=32:=by rw[←hm.out];exact zed _ _
      rw[hm.out]at cm ⊢
      clear hP hat ec hkr hrk hdo hrow2 hw2
      go_enter func29,ntmps29
      go_wp2_with (first|(go_at_call 28;refine cl.mono ?_;rintro e w1 ⟨rfl,hx⟩;obtain rfl:=hx.symm;clear hx))
      refine cm.mono ?_
      rintro e w3 ⟨rfl,hw3⟩
      clear cm cl hcv
      have hB4:=hB3.trans (hw3.mono hB3.size)
      have hT3:=zg (zg hT2 hBp (by omega)) hw3 (by simp;omega)
      have hs3:=hw3.size
      simp only[World.size_alloc]at hs3
      have F:=zq w3 (Array.replicate 32 (.int .u8 0)) 41 (v8 m) (by rw[v8_length,hml];rfl)
      have hN:=zcK w3 m hml
      have hi:=zbn m hml
      have h1c:=all_oneCell_toArray (zy m)
      go_upto_region 6 with(refine wpList_store_mid (op:=⟨none,.store 41 (.tmp 8) (.tmp 32),_,_,_,none⟩) rfl 41 _ _ rfl _ _ (v8 m).toArray rfl rfl hN hi h1c ?_)
      go_name_world w4 hw4
      rw[show(w3.alloc (.cells (Array.replicate 32 (.int .u8 0)) 41)).setCells w3.heap.size 0 (v8 m)=w4 from hw4]at F
      obtain⟨hR4,hB4',hz4',_⟩:=F
      have hz4:w3.heap.size<w4.heap.size:=by omega
      clear hz4' hw4 hN hi h1c hw3
      have hB5:=hB4.trans (hB4'.mono hB4.size)
      have hT4:=zg hT3 hB4' (by omega)
      have hsl:=zfr (w:=w4) underlying41 isz8 w3.heap.size 0 16 16 rfl (by omega) (by omega)
      obtain⟨t,ht⟩:∃t,Hid (m.take 16=t):=⟨_,hide rfl⟩
      have htl:t.length=16:=by rw[←ht.out,List.length_take];omega
      have hRt:w4.rangeAt w3.heap.size 0 (v8 t):=by
        have e:v8 m=v8 t++v8 (m.drop 16):=by rw[←zS,←ht.out,List.take_append_drop]
        rw[e]at hR4;exact zI hR4
      try simp only[Act.put]
      have hl16:(prog.info? 23).map (·.size)=some (v8 t).length:=by simpa using zaC t htl
      have hT4':w4.there w.heap.size 0 (v8 t).toArray.size:=by
        have e:(v8 t).toArray.size=16:=by rw[List.size_toArray,v8_length,htl]
        rw[e];exact hT4
      have h1t:=all_oneCell_toArray (zy t)
      have hit:=zaC t htl
      have hap:=znr w3.heap.size w4
      refine wp_region_list ?_
      refine wpList_plain rfl fun K hK=>?_
      go_simp
      refine hK _ _ ?_
      clear hK K
      refine wpList_plain rfl fun K hK=>?_
      go_simp
      refine hK _ _ ?_
      clear hK K
      refine wpList_load_mid rfl 23 _ rfl _ _ rfl (v8 t) _ hRt underlying23 rfl hl16 ?_
      refine wpList_store_mid rfl 23 _ _ rfl _ _ (v8 t).toArray rfl rfl hT4' hit h1t ?_
      go_wp2
      have hRr:=World.rangeAt_setCells_same w4 w.heap.size 0 (v8 t) (by rw[v8_length,htl];exact hT4)
      have hBl:=zi (Nat.le_refl w.heap.size) (v8 t) 0 w4 hB5
      have hrs:=zdb htl hRr
      exact bodyPost_ret (v:=.tuple #[.agg (v8 t).toArray,.int .i64 0]) (by simp[results,results29,asAddr,hrs]) rfl ⟨by rw[ht.out],hBl⟩
theorem zmc (xs ys:List Int) (hx:xs.length=16) (hy:ys.length=16) (w:World):(binOp .eql 23 (.agg (v8 xs).toArray) (.agg (v8 ys).toArray)).run prog w=.ok (.bool (xs==ys)) w:=by
 rw[run_eql_struct,zbw w 9998 23 5 16 underlying23 underlying5 isz8 xs ys hx hy];rfl
theorem zgE (xs ys:List Int) (hx:xs.length=16) (hy:ys.length=16) (w:World):(binOp .neq 23 (.agg (v8 xs).toArray) (.agg (v8 ys).toArray)).run prog w=.ok (.bool (!(xs==ys))) w:=by
 rw[run_neq_struct,zbw w 9998 23 5 16 underlying23 underlying5 isz8 xs ys hx hy];rfl
end Go.Proofs.YtcbpbkefggekmaaGreatDoor.Qs
namespace Go.Proofs.YtcbpbkefggekmaaGreatDoor.Rk
open Qs
open Go.RowKit
open Sha Tal
theorem zkB (w:World):RowAt (w.alloc (.cells #[.int .u8 82] 5)) (some ⟨w.heap.size,0,none⟩) [82]:=
 ⟨by unfold maxLen;simp,by decide,Or.inr ⟨w.heap.size,0,rfl,by simp,zC w #[.int .u8 82] 5⟩⟩
theorem zeD (c n:Int) (s:ByteArray) (hc:c≤9223372036854775807) (hn:n≤9223372036854775807) (hs:s.size≤100000):(bodyL c n s).length≤200000:=by
 have h1:=zab c (by omega)
 have h2:=zab n (by omega)
 have h3:=zab s.size (by omega)
 simp only[bodyL,textL,List.length_append,zN,List.length_cons,List.length_nil]
 omega
theorem zhL (c n:Int) (s:ByteArray) (t:List Int) (w:World) (ht:t.length=16) (hc:c≤9223372036854775807) (hn:n≤9223372036854775807) (hs:s.size≤100000):
   Calls prog 101 #[.agg (reqL c n s t).toArray] w fun e w'=>e=.returned (.string (strOf (bodyL c n s)))∧Below w.heap.size w w':=by
  have hB1:Below w.heap.size w (w.alloc (.cells (reqL c n s t).toArray 81)):=(Below.refl _ _).alloc (Nat.le_refl _) _
  have hR1:=zcS w c n s t
  have hz1:w.heap.size<(w.alloc (.cells (reqL c n s t).toArray 81)).heap.size:=by simp
  have hi:(prog.info? 81).map (·.size)=some (reqL c n s t).length:=by rw[za2 c n s t ht];exact iszR
  have cf:=fun a cap w0 h=>zg8 a cap [82] c n s t w0 h (by simp) hc hn (by omega)
  have hbl:=zeD c n s hc hn hs
  obtain⟨q,hq⟩:∃q,Hid (reqL c n s t=q):=⟨_,rfl⟩
  rw[hq.out]at hB1 hz1 hi ⊢
  rw[hq.out]at hR1
  simp only[hq.out]at cf
  have eb:[82]++putL c++putL n++textL s=bodyL c n s:=rfl
  simp only[eb]at cf
  obtain⟨bl,hb⟩:∃bl,Hid (bodyL c n s=bl):=⟨_,rfl⟩
  simp only[hb.out]at cf
  rw[hb.out]at hbl ⊢
  obtain⟨st,hst⟩:∃st,Hid (strOf bl=st):=⟨_,rfl⟩
  rw[hst.out]
  clear eb
  go_enter func101,ntmps101
  go_upto_region 1 with fail
  go_name_world w1 hw1
  rw[show w.alloc (.cells q.toArray 81)=w1 from hw1]at hB1 hR1 hz1
  clear hw1
  have hB2':Below w1.heap.size w1 (w1.alloc (.cells #[.int .u8 82] 5)):=(Below.refl _ _).alloc (Nat.le_refl _) _
  have hB2:=hB1.trans (hB2'.mono hB1.size)
  have hR2:=za hR1 hB2' hz1
  have c2:=cf _ 1 _ (zkB w1)
  simp only[List.length_cons,List.length_nil,Nat.zero_add]at c2
  clear cf hB1 hR1 hB2'
  obtain⟨X,hX⟩:∃X,Hid (w.heap.size=X):=⟨_,rfl⟩
  rw[hX.out]at hR2
  rw[hX.out]
  go_wp2_with (refine wpList_load_mid rfl 81 _ rfl _ 0 rfl q _ hR2 underlying81 rfl hi ?_)
  refine c2.mono ?_
  rintro e w3 ⟨v3,rfl,hM3,hw3⟩
  have hfin:=hB2.trans (hw3.mono hB2.size)
  obtain⟨a3,cap3,rfl,_,_,hrow3⟩:=hM3.rowAt (by unfold maxLen;omega)
  have hstr:=zfS hrow3 cap3
  rw[hst.out]at hstr
  clear c2 hM3 hw3 hrow3 hR2 hB2 hbl
  generalize bl.length=nb at *
  go_wp2
  go_ret
  rw[←hX.out]
  exact⟨rfl,hfin⟩
end Go.Proofs.YtcbpbkefggekmaaGreatDoor.Rk
namespace Go.Proofs.YtcbpbkefggekmaaGreatDoor.Qs
open Go.RowKit
open Sha Tal
def keyOf (seed:ByteArray) (id:Nat):List Int:=sha (textL seed++putL (id:Int))
def keysOf (seed:ByteArray) (n:Nat):List (List Int):=(List.range n).map (keyOf seed)
theorem zbZ (seed:ByteArray) (n:Nat):(keysOf seed n).length=n:=by simp[keysOf]
theorem zla (seed:ByteArray) (n i:Nat) (d:List Int) (h:(keysOf seed n)[i]? =some d):i<n∧d=keyOf seed i:=by
 have hi:i<n:=by have:=(List.getElem?_eq_some_iff.1 h).1;simpa [keysOf]using this
 refine⟨hi,?_⟩
 simp[keysOf,List.getElem?_map,List.getElem?_range hi]at h
 exact h.symm
theorem zk9 (seed:ByteArray) (n i:Nat) (h:i<n):(keysOf seed n).getD i []=keyOf seed i:=by
 rw[List.getD_eq_getElem?_getD,keysOf,List.getElem?_map,List.getElem?_range h];rfl
theorem zcm (seed:ByteArray) (id:Nat):(keyOf seed id).length=32:=za0 _
theorem zgN (seed:ByteArray) (id:Nat):∀z∈keyOf seed id,0≤z∧z<256:=zbP _
theorem zle:(prog.info? 41).map (fun i=>(i.zero,i.size,i.bytes))=some (some (.agg (Array.replicate 32 (.int .u8 0))),32,32):=by kernel_rfl
theorem zkm {w:World} {base:Nat} {e:TypeId} {size g n:Nat} {xs:List Value} (h:w.ownsRow base e size (.slice (some ⟨g,0,none⟩) n n) n xs):w.there g 0 (n*size):=by
 rcases h.2 with⟨hv,_⟩|⟨g',cap,cur,hv,hb,hg,h1,h2,h3,h4⟩
 ·cases hv
 ·injection hv with ha hl hc
  simp only[Option.some.injEq,Addr.mk.injEq]at ha
  obtain⟨rfl,_⟩:=ha
  subst hc
  intro j hj
  rw[Nat.zero_add]
  have hj':j<cur.size:=by rw[h3];exact hj
  constructor
  ·simp[World.cell?,hg,hj']
  ·simp[World.frozen?,hg]
theorem ziK {w:World} {g o n i m:Nat} (h:w.there g o n) (hm:i+m≤n):w.there g (o+i) m:=zL h i m hm
theorem zj9 (n:Int) (h:0≤n):0<(putL n).length:=by
 unfold putL;rw[if_neg (by omega)];simp[numB]
theorem zmx (seed:ByteArray) (n:Nat) (w:World) (hG:Glob w) (hn1:1≤n) (hn2:n≤4096) (hs:seed.size≤64):
    Calls prog 27 #[.string seed,.int .i64 (n:Int)] w fun e w'=>∃p,e=.returned (.pointer p)∧p≠none∧KeysAt w' p (keysOf seed n)∧Below w.heap.size w w':=by
  have t1:¬(n:Int)<1:=by omega
  have t2:¬(4096:Int)<n:=by omega
  have t3:¬(64:Int)<seed.size:=by omega
  obtain⟨i0,hi,hz0,hz1,hz2⟩:=zW zle
  obtain⟨w1,hmk,hown1,hgr1⟩:=run_makeSlice_full (P:=prog) w w.heap.size 121 41 i0 _ 32 underlying121 hi hz0 hz1 .i64 .i64 n (by omega) (by rw[hz2];omega) (by unfold maxLen;omega) (Nat.le_refl _)
  have hT1:=zkm hown1
  have hB1:Below w.heap.size w w1:=(Below.refl _ _).grown hgr1 (Nat.le_refl _) (fun _ h=>by cases h)
  have hs1:w.heap.size<w1.heap.size:=by
    have:=(hT1 0 (by omega)).1
    obtain⟨u,hu⟩:=Option.isSome_iff_exists.1 this
    exact World.block_lt_of_cell? w1 _ hu
  clear hown1 hgr1 hi hz0 hz1 hz2
  have hB2':Below w1.heap.size w1 (w1.alloc (.cells #[.slice (some ⟨w.heap.size,0,none⟩) n n] 123)):=(Below.refl _ _).alloc (Nat.le_refl _) _
  have hB2:=hB1.trans (hB2'.mono hB1.size)
  have hT2:=zg hT1 hB2' hs1
  have hK2:(w1.alloc (.cells #[.slice (some ⟨w.heap.size,0,none⟩) n n] 123)).cell? ⟨w1.heap.size,0,none⟩=some (.slice (some ⟨w.heap.size,0,none⟩) n n):=by
    rw[World.cell?_alloc_at _ _ _ _ rfl];rfl
  have ct:=zd1 none 0 [] seed (w1.alloc (.cells #[.slice (some ⟨w.heap.size,0,none⟩) n n] 123)) (zaR _) (by simp) (by omega)
  rw[List.nil_append]at ct
  have htl:(textL seed).length≤73∧0<(textL seed).length:=by
    unfold textL
    have h1:=zab (seed.size:Int) (by omega)
    have h2:=zj9 (seed.size:Int) (by omega)
    rw[List.length_append,zN];omega
  have HK:Hid (∀i,keyOf seed i=sha (textL seed++putL (i:Int))):=fun i=>rfl
  generalize textL seed=ts at *
  go_enter func27,ntmps27
  go_wp2_with fail
  refine ct.mono ?_
  rintro e w3 ⟨v3,rfl,hM3,hw3⟩
  clear ct hmk
  have hB3:=hB2.trans (hw3.mono hB2.size)
  have hT3:=zg hT2 hw3 (by simp;omega)
  have hK3:=(hw3.cell (p:=⟨w1.heap.size,0,none⟩) (by simp)).trans hK2
  have hs3:=hw3.size
  simp only[World.size_alloc]at hs3 hM3
  obtain⟨a,cap,rfl,hca,hcm,hrow⟩:=hM3.rowAt (by unfold maxLen;omega)
  obtain⟨b,off,rfl,hbl,hbr,hbn⟩:∃b off,a=some ⟨b,off,none⟩∧b<w3.heap.size∧w3.rangeAt b off (v8 ts)∧w1.heap.size+1≤b:=by
    rcases hrow.2.2 with h0|⟨b,off,rfl,hb,hr⟩
    · have:=htl.2;rw[h0]at this;simp at this
    · exact⟨b,off,rfl,hb,hr,(hM3.1.lt b rfl).1⟩
  have hto:=hM3.2
  obtain⟨D,hD⟩:∃D,w.heap.size=D:=⟨_,rfl⟩
  obtain⟨K,hKe⟩:∃K,w1.heap.size=K:=⟨_,rfl⟩
  rw[hD]at hT3 hK3
  rw[hKe]at hK3
  have hDK:D<K:=by omega
  have hKs:K<w3.heap.size:=by omega
  have hDb:D<b:=by omega
  have hKb:K<b:=by omega
  have hwD:w.heap.size≤D:=by omega
  clear hM3 hrow hw3 hT2 hK2 hB2 hB2' hT1 hB1
  rw[hD,hKe]
  clear hD hKe hs1 hs3 hbn
  go_wp2_with fail
  go_loopw [26] (fun i wr=>∃k:Nat,k≤n∧i=.int .i64 (k:Int)∧wr.cell? ⟨K,0,none⟩=some (.slice (some ⟨D,0,none⟩) n n)∧wr.there D 0 (n*32)∧(∀j,j<k→wr.rangeAt D (j*32) (v8 (keyOf seed j)))∧wr.rangeAt b off (v8 ts)∧b<wr.heap.size∧Below w.heap.size w wr) (fun i _=>n - (intOf i).toNat)
  case atStart=>exact⟨0,by omega,rfl,hK3,hT3,fun j h=>by omega,hbr,hbl,hB3⟩
  case round=>
    clear hK3 hT3 hbr hbl hB3 hKs
    obtain⟨k,hk,rfl,hK,hT,hR,hbr,hbl,hB⟩:=hrel
    by_cases hlt:k<n
    · have hltI:(k:Int)<n:=by omega
      have HR:=hide hR
      clear hR
      go_wp2_with fail
      refine zw (S:=(fun W:World=>W.cell? ⟨K,0,none⟩=some (.slice (some ⟨D,0,none⟩) n n))) 12 rfl (by kernel_rfl) ?_
      have hS:(fun W:World=>W.cell? ⟨K,0,none⟩=some (.slice (some ⟨D,0,none⟩) n n)) wr.drew:=hK
      have hB5:Below w.heap.size w wr.drew:=hB.drew
      have hT5:wr.drew.there D 0 (n*32):=hT
      have hR5:∀j,j<k→wr.drew.rangeAt D (j*32) (v8 (keyOf seed j)):=HR.out
      have hb5:wr.drew.rangeAt b off (v8 ts):=hbr
      have hl5:b<wr.drew.heap.size:=hbl
      generalize wr.drew=w5 at hS hB5 hT5 hR5 hb5 hl5 ⊢
      have HR5:=hide hR5
      clear HR hbr hbl hT hK hB hR5
      refine hs_a 0 29 hS ?_
      refine hs_a 1 30 hS ?_
      refine hs_a 2 31 hS ?_
      refine hs_a 3 32 hS ?_
      refine hs_a 4 33 hS ?_
      refine hs_a 5 34 hS ?_
      refine hs_a 6 35 hS ?_
      have hrow5:RowAt w5 (some ⟨b,off,none⟩) ts:=⟨by unfold maxLen;omega,hto,Or.inr ⟨_,_,rfl,hl5,hb5⟩⟩
      have cp:=zbx (some ⟨b,off,none⟩) cap ts (k:Int) w5 hrow5 (by omega) (by omega)
      have hpl:=zab (k:Int) (by omega)
      refine hs_c 7 36 ?_
      refine(cp).mono ?_
      rintro e' w6 ⟨v6,rfl,hM6,hw6⟩
      have hS:(fun W:World=>W.cell? ⟨K,0,none⟩=some (.slice (some ⟨D,0,none⟩) n n)) w6:=(hw6.cell (p:=⟨K,0,none⟩) (show K<w5.heap.size by omega)).trans hS
      refine⟨_,rfl,hS,?_⟩
      simp only[nz]
      obtain⟨a6,cap6,rfl,hc6,hm6,hrow6⟩:=hM6.rowAt (by rw[List.length_append];unfold maxLen;omega)
      clear cp hM6
      have hs6:=hw6.size
      have hB7':Below w6.heap.size w6 (w6.alloc (.cells #[.slice a6 (ts++putL (k:Int)).length cap6] 59)):=(Below.refl _ _).alloc (Nat.le_refl _) _
      have hP:=zc3 w6 #[.slice a6 (ts++putL (k:Int)).length cap6] ⟨a6,cap6,ts++putL (k:Int)⟩ ⟨hrow6,hc6,hm6⟩ rfl
      have hw7:=hw6.trans (hB7'.mono hw6.size)
      have hS:(fun W:World=>W.cell? ⟨K,0,none⟩=some (.slice (some ⟨D,0,none⟩) n n)) (w6.alloc (.cells #[.slice a6 (ts++putL (k:Int)).length cap6] 59)):=(hB7'.cell (p:=⟨K,0,none⟩) (show K<w6.heap.size by omega)).trans hS
      refine zbo (i:=8) (d:=some 37) (v:=.slice (some ⟨w6.heap.size,0,none⟩) 1 1) (w':=(w6.alloc (.cells #[.slice a6 (ts++putL (k:Int)).length cap6] 59))) rfl (by kernel_rfl) (by rfl) (by go_simp;try with_reducible rfl) rfl hS ?_
      simp only[nz]
      have ec:cat [(⟨a6,cap6,ts++putL (k:Int)⟩:Part)]=ts++putL (k:Int):=by simp[cat]
      have hB7:=hB5.trans (hw7.mono hB5.size)
      have csum:=zdL _ 1 _ _ (hG.below hB7) hP (by rw[ec,List.length_append];omega)
      rw[ec,←HK.out k]at csum
      simp only[List.length_cons,List.length_nil,Nat.zero_add]at csum
      clear hP ec hrow6
      generalize w6.alloc (.cells #[.slice a6 (ts++putL (k:Int)).length cap6] 59)=w7 at *
      refine hs_c 9 38 ?_
      refine(csum).mono ?_
      rintro e' w8 ⟨rfl,hw8⟩
      have hS:(fun W:World=>W.cell? ⟨K,0,none⟩=some (.slice (some ⟨D,0,none⟩) n n)) w8:=(hw8.cell (p:=⟨K,0,none⟩) (show K<w7.heap.size by have:=hw7.size;omega)).trans hS
      refine⟨_,rfl,hS,?_⟩
      simp only[nz]
      have hW8:=hw7.trans (hw8.mono hw7.size)
      have hB8:=hB5.trans (hW8.mono hB5.size)
      have hT8:=zg hT5 hW8 (by omega)
      have hb8:=za hb5 hW8 hl5
      have hR8:∀j,j<k→w8.rangeAt D (j*32) (v8 (keyOf seed j)):=fun j hj=>za (HR5.out j hj) hW8 (by omega)
      have hl8:b<w8.heap.size:=by have:=hW8.size;omega
      clear csum hw8 hw7 hw6 hB7' hB7 HR5 hb5 hT5 hB5 hW8
      obtain⟨d,hd⟩:∃d,Hid (keyOf seed k=d):=⟨_,hide rfl⟩
      have hdl:d.length=32:=by rw[←hd.out];exact zcm _ _
      rw[hd.out]
      refine hs_a 10 39 hS ?_
      have hTk:w8.there D (k*32) 32:=by have:=ziK hT8 (i:=k*32) (m:=32) (by omega);rwa [Nat.zero_add]at this
      have hTk':w8.there D (k*32) (v8 d).toArray.size:=by
        have e:(v8 d).toArray.size=32:=by rw[List.size_toArray,v8_length,hdl]
        rw[e];exact hTk
      have hst:=run_storeVar_mid (P:=prog) w8 D (k*32) 41 (v8 d).toArray hTk' (zbn d hdl) (all_oneCell_toArray (zy d))
      have hRn:=World.rangeAt_setCells_same w8 D (k*32) (v8 d) (by rw[v8_length,hdl];exact hTk)
      have hSn:(w8.setCells D (k*32) (v8 d)).cell? ⟨K,0,none⟩=some (.slice (some ⟨D,0,none⟩) n n):=by
        have:=World.rangeAt_setCells_apart (b':=K) (o':=0) (cs:=[.slice (some ⟨D,0,none⟩) n n]) (w:=w8) (fun j v hv=>by
          match j,hv with
          |0,hv=>simp at hv;subst hv;exact hS) D (k*32) (v8 d) (Or.inl (by omega))
        exact this 0 _ rfl
      have hbn:=World.rangeAt_setCells_apart hb8 D (k*32) (v8 d) (Or.inl (by omega))
      have hTn:=World.there_setCells hT8 D (k*32) (v8 d)
      have hBn:=zi hwD (v8 d) (k*32) w8 hB8
      have hRp:∀j,j<k→(w8.setCells D (k*32) (v8 d)).rangeAt D (j*32) (v8 (keyOf seed j)):=fun j hj=>World.rangeAt_setCells_apart (hR8 j hj) D (k*32) (v8 d) (Or.inr (Or.inl (by rw[v8_length,zcm];omega)))
      have hln:b<(w8.setCells D (k*32) (v8 d)).heap.size:=by rw[zB];exact hl8
      refine zG (i:=11) (w':=w8.setCells D (k*32) (v8 d)) rfl (by kernel_rfl) (by rfl) (zbG rfl rfl rfl hst) rfl hSn ?_
      refine zv (by kernel_rfl) ?_
      generalize w8.setCells D (k*32) (v8 d)=w9 at *
      clear hst hTk hTk' hS hb8 hT8 hR8
      have HRn:=hide hRn
      have HRp:=hide hRp
      clear hRn hRp
      go_wp2_with fail
      go_roundw
      case rel=>
        refine⟨k+1,by omega,by go_num,hSn,hTn,fun j hj=>?_,hbn,hln,hBn⟩
        rcases Nat.lt_or_eq_of_le (Nat.lt_succ_iff.1 hj)with h|rfl
        · exact HRp.out j h
        · rw[hd.out];exact HRn.out
      case measure=>simp[intOf];omega
    · obtain rfl:k=n:=by omega
      have HR:=hide hR
      clear hR
      have hKs:K<wr.heap.size:=World.block_lt_of_cell? wr _ hK
      have hDs:D<wr.heap.size:=by omega
      go_wp2
      go_ret
      refine⟨_,rfl,by simp,.inr ⟨K,_,_,rfl,hKs,by rw[zbZ];exact hK,by rw[zbZ];exact hn2,fun d hd=>?_,.inr ⟨D,rfl,hDs,fun i d hi=>?_⟩⟩,hB⟩
      · obtain⟨i,_,rfl⟩:=List.mem_map.1 hd
        exact⟨zcm _ _,zgN _ _⟩
      · obtain⟨hi',rfl⟩:=zla seed k i d hi
        exact HR.out i hi'
def checkOf (r:List Int ×Int) (t:List Int):Bool:=(r.2==0)&&(r.1==t)
theorem zjY (seed:ByteArray) (N:Int) (k:Nat) (w:World) (hs:seed.size≤100000) (hk:k≤100000):
  Calls prog 60 #[.agg #[.string seed,.int .i64 N],.int .i64 (k:Int)] w fun e w'=>∃v,e=.returned v∧w'.ownsRow w.heap.size 5 1 v (keyOf seed k).length (v8 (keyOf seed k))∧Below w.heap.size w w':=by
 have hB0:Below w.heap.size w (w.alloc (.cells #[.string seed,.int .i64 N] 29)):=(Below.refl _ _).alloc (Nat.le_refl _) _
 have c1:=zjW none 0 [] seed (w.alloc (.cells #[.string seed,.int .i64 N] 29)) (zaR _) (by simp) (by omega)
 rw[List.nil_append]at c1
 have htl:(textL seed).length≤100009:=by
  unfold textL
  have h1:=zab (seed.size:Int) (by omega)
  rw[List.length_append,zN];omega
 have hpl:=zab (k:Int) (by omega)
 have HK:Hid (keyOf seed k=sha (textL seed++putL (k:Int))):=rfl
 obtain⟨d,hd⟩:∃d,Hid (keyOf seed k=d):=⟨_,hide rfl⟩
 have hdl:d.length=32:=by rw[←hd.out];exact zcm _ _
 rw[hd.out]at HK ⊢
 generalize textL seed=ts at *
 go_enter func60,ntmps60
 go_wp2_with fail
 refine c1.mono ?_
 rintro e w1 ⟨v1,rfl,hM1,hw1⟩
 clear c1
 have hB1:=hB0.trans (hw1.mono hB0.size)
 obtain⟨a1,cap1,rfl,_,_,hrow1⟩:=hM1.rowAt (by unfold maxLen;omega)
 clear hM1
 have c2:=zfZ a1 cap1 ts (k:Int) w1 hrow1 (by omega) (by omega)
 go_wp2_with fail
 refine c2.mono ?_
 rintro e w2 ⟨v2,rfl,hM2,hw2⟩
 clear c2
 have hB2:=hB1.trans (hw2.mono hB1.size)
 obtain⟨a2,cap2,rfl,_,_,hrow2⟩:=hM2.rowAt (by rw[List.length_append];unfold maxLen;omega)
 clear hM2
 have c3:=zcT a2 cap2 (ts++putL (k:Int)) w2 hrow2 (by rw[List.length_append];omega)
 rw[←HK.out]at c3
 generalize (ts++putL (k:Int)).length=n2 at *
 go_wp2_with fail
 refine c3.mono ?_
 rintro e w3 ⟨rfl,hw3⟩
 clear c3
 have hB3:=hB2.trans (hw3.mono hB2.size)
 go_wp2_with fail
 refine(zeC d w3 hdl).mono ?_
 rintro e w4 ⟨v4,rfl,hown4,hw4⟩
 have hB4:=hB3.trans (hw4.mono hB3.size)
 go_wp2
 go_ret
 exact⟨_,rfl,zcj hown4 hB3.size,hB4⟩
def zaU (seed:ByteArray) (N id:Int) (body:ByteArray):List Int ×Int:=
 if id<0∨N≤id then(zj,2)else((mac (keyOf seed id.toNat) (strL body)).take 16,0)
theorem zi3 (seed:ByteArray) (n:Nat) (hn:1≤n) (id:Int) (body:ByteArray):signOf (keysOf seed n) id body=zaU seed n id body:=by
 unfold signOf zaU
 have h0:keysOf seed n≠[]:=fun h=>by have:=zbZ seed n;rw[h]at this;simp at this;omega
 rw[if_neg h0,zbZ]
 by_cases h:id<0∨(n:Int)≤id
 ·rw[if_pos h,if_pos h]
 ·rw[if_neg h,if_neg h,zk9 seed n id.toNat (by omega)]
theorem zjV (seed:ByteArray) (N id:Int) (body:ByteArray) (w:World) (hs:seed.size≤100000) (hN:N≤100000) (hb:body.size≤100000):
  Calls prog 23 #[.agg #[.string seed,.int .i64 N],.int .i64 id,.string body] w fun e w'=>e=.returned (.tuple #[.agg (v8 (zaU seed N id body).1).toArray,.int .i64 (zaU seed N id body).2])∧Below w.heap.size w w':=by
 go_enter func23,ntmps23
 go_upto_region 2 with fail
 go_name_world w1 hw1'
 have hw1:((w.alloc (.cells #[.string seed,.int .i64 N] 29)).alloc (.cells (Array.replicate 16 (.int .u8 0)) 23)).alloc (.cells (Array.replicate 16 (.int .u8 0)) 23)=w1:=hw1'
 have hB1:Below w.heap.size w w1:=by rw[←hw1];exact(((Below.refl _ _).alloc (Nat.le_refl _) _).alloc (by simp) _).alloc (by simp;omega) _
 have hs1:w.heap.size+2<w1.heap.size:=by rw[←hw1];simp
 have hT1:w1.there (w.heap.size+1) 0 16:=by
  rw[←hw1]
  have:=World.there_alloc (zaq (w.alloc (.cells #[.string seed,.int .i64 N] 29)) 16 23).2 (.cells (Array.replicate 16 (.int .u8 0)) 23)
  simpa using this
 have hT2:w1.there (w.heap.size+2) 0 16∧w1.rangeAt (w.heap.size+2) 0 (v8 zj):=by
  rw[←hw1]
  have:=zaq ((w.alloc (.cells #[.string seed,.int .i64 N] 29)).alloc (.cells (Array.replicate 16 (.int .u8 0)) 23)) 16 23
  simp only[World.size_alloc]at this
  exact⟨this.2,this.1⟩
 have hc0:w1.cell? ⟨w.heap.size,0,none⟩=some (.string seed)∧w1.cell? ⟨w.heap.size,1,none⟩=some (.int .i64 N):=by
  have h0:=zC w #[.string seed,.int .i64 N] 29
  have hb:Below (w.heap.size+1) (w.alloc (.cells #[.string seed,.int .i64 N] 29)) w1:=by
   rw[←hw1];exact((Below.refl _ _).alloc (by simp) _).alloc (by simp) _
  have h1:=za h0 hb (by omega)
  exact⟨h1 0 _ rfl,h1 1 _ rfl⟩
 obtain⟨hc0,hc1⟩:=hc0
 clear hw1 hw1'
 by_cases h1:id<0∨N≤id
 ·have HS:Hid (zaU seed N id body=(zj,2)):=by show _=_;simp[zaU,h1]
  have hl16:(prog.info? 23).map (·.size)=some (v8 zj).length:=by simpa using zaC zj rfl
  have hT1':w1.there (w.heap.size+1) 0 (v8 zj).toArray.size:=hT1
  have h1t:=all_oneCell_toArray (zy zj)
  have hit:=zaC zj rfl
  have hRr:=World.rangeAt_setCells_same w1 (w.heap.size+1) 0 (v8 zj) hT1
  have hBl:=zi (show w.heap.size≤w.heap.size+1 by omega) (v8 zj) 0 w1 hB1
  have hrs:=zdb (t:=zj) rfl hRr
  by_cases h0:id<0
  ·clear h1
   go_upto_region 3 with fail
   refine wp_region_list ?_
   refine wpList_load_mid rfl 23 _ rfl _ _ rfl (v8 zj) _ hT2.2 underlying23 rfl hl16 ?_
   refine wpList_store_mid rfl 23 _ _ rfl _ _ (v8 zj).toArray rfl rfl hT1' hit h1t ?_
   generalize w1.setCells (w.heap.size+1) 0 (v8 zj)=w9 at *
   go_wp2
   exact bodyPost_ret (v:=.tuple #[.agg (v8 zj).toArray,.int .i64 2]) (by simp[results,results23,asAddr,hrs]) rfl ⟨by rw[HS.out],hBl⟩
  ·have h2:N≤id:=by omega
   clear h1
   go_upto_region 3 with fail
   refine wp_region_list ?_
   refine wpList_load_mid rfl 23 _ rfl _ _ rfl (v8 zj) _ hT2.2 underlying23 rfl hl16 ?_
   refine wpList_store_mid rfl 23 _ _ rfl _ _ (v8 zj).toArray rfl rfl hT1' hit h1t ?_
   generalize w1.setCells (w.heap.size+1) 0 (v8 zj)=w9 at *
   go_wp2
   exact bodyPost_ret (v:=.tuple #[.agg (v8 zj).toArray,.int .i64 2]) (by simp[results,results23,asAddr,hrs]) rfl ⟨by rw[HS.out],hBl⟩
 ·obtain⟨k,rfl⟩:=Int.eq_ofNat_of_zero_le (show 0≤id by omega)
  have h2:(k:Int)<N:=by omega
  have h0:¬(k:Int)<0:=by omega
  have HS:Hid (zaU seed N (k:Int) body=((mac (keyOf seed k) (strL body)).take 16,0)):=by
   show _=_
   rw[zaU,if_neg h1,Int.toNat_natCast]
  clear h1
  have ck:=zjY seed N k w1 hs (by omega)
  obtain⟨d,hd⟩:∃d,Hid (keyOf seed k=d):=⟨_,hide rfl⟩
  have hdl:d.length=32:=by rw[←hd.out];exact zcm _ _
  have hdo:∀z∈d,0≤z∧z<256:=by rw[←hd.out];exact zgN _ _
  rw[hd.out]at ck HS
  go_wp2_with fail
  refine ck.mono ?_
  rintro e w2 ⟨v2,rfl,hown2,hw2⟩
  clear ck
  have hB2:=hB1.trans (hw2.mono hB1.size)
  have hs2:=hw2.size
  obtain⟨a2,cap2,rfl,_,_,hrow2⟩:=zbV hown2 hdo (by rw[hdl];unfold maxLen;omega)
  clear hown2
  obtain⟨cap3,w3,hcv,hrow3,hc3a,hc3b,hw3,hs3⟩:=zfk body w2 (by omega)
  have hB3:=hB2.trans (hw3.mono hB2.size)
  have cm:=zjX a2 cap2 d (some ⟨w2.heap.size,0,none⟩) cap3 (strL body) w3 (hrow2.below hw3) (by omega) hrow3 (by rw[zN];omega)
  rw[zN,hdl]at cm
  rw[hdl]
  obtain⟨m,hm⟩:∃m,Hid (mac d (strL body)=m):=⟨_,hide rfl⟩
  have hml:m.length=32:=by rw[←hm.out];exact zed _ _
  rw[hm.out]at cm HS
  clear hrow2 hrow3
  go_wp2_with fail
  refine cm.mono ?_
  rintro e w4 ⟨rfl,hw4⟩
  clear cm hcv
  have hB4:=hB3.trans (hw4.mono hB3.size)
  have hW4:=hw2.trans ((hw3.trans (hw4.mono hw3.size)).mono hw2.size)
  have hs4:=hw4.size
  have hT14:=zg hT1 hW4 (by omega)
  have hT24:=zg hT2.1 hW4 (by omega)
  have hR24:=za hT2.2 hW4 (by omega)
  have F:=zq w4 (Array.replicate 32 (.int .u8 0)) 41 (v8 m) (by rw[v8_length,hml];rfl)
  have hN:=zcK w4 m hml
  have hi:=zbn m hml
  have h1c:=all_oneCell_toArray (zy m)
  go_upto_region 5 with(refine wpList_store_mid (op:=⟨none,.store 41 (.tmp 9) (.tmp 25),_,_,_,none⟩) rfl 41 _ _ rfl _ _ (v8 m).toArray rfl rfl hN hi h1c ?_)
  go_name_world w5 hw5
  rw[show(w4.alloc (.cells (Array.replicate 32 (.int .u8 0)) 41)).setCells w4.heap.size 0 (v8 m)=w5 from hw5]at F
  obtain⟨hR5,hB5',hz5',_⟩:=F
  have hz5:w4.heap.size<w5.heap.size:=by omega
  have hB5:=hB4.trans (hB5'.mono hB4.size)
  have hT15:=zg hT14 hB5' (by omega)
  have hT25:=zg hT24 hB5' (by omega)
  have hR25:=za hR24 hB5' (by omega)
  obtain⟨E,hE⟩:∃E,w4.heap.size=E:=⟨_,rfl⟩
  rw[hE]at hR5 hz5 ⊢
  have hEl:w.heap.size+2<E:=by omega
  clear hz5' hw5 hN hi h1c hw4 hw3 hw2 hB5' hE hW4 hT14 hT24 hR24 hB4 hB3 hB2 hs4 hs3 hs2 hc0 hc1 hT1 hT2 hs1 hB1
  try simp only[Act.put]
  go_wp2_with fail
  go_loopw [10] (fun i wr=>∃j:Nat,j≤16∧i=.int .i64 (j:Int)∧wr.rangeAt E 0 (v8 m)∧wr.rangeAt (w.heap.size+2) 0 (v8 (m.take j++zj.drop j))∧wr.there (w.heap.size+2) 0 16∧wr.there (w.heap.size+1) 0 16∧Below w.heap.size w wr) (fun i _=>16 - (intOf i).toNat)
  case atStart=>exact⟨0,by omega,rfl,hR5,by simpa using hR25,hT25,hT15,hB5⟩
  case round=>
   clear hR5 hR25 hT25 hT15 hB5
   obtain⟨j,hj,rfl,hRm,hRt,hTt,hTr,hB⟩:=hrel
   by_cases hlt:j<16
   ·have hjm:j<m.length:=by omega
    obtain⟨z,hz⟩:∃z,Hid (m.getD j 0=z):=⟨_,hide rfl⟩
    have hcm:=get8 hRm hjm
    rw[Nat.zero_add,hz.out]at hcm
    obtain⟨u,hcu⟩:=Option.isSome_iff_exists.1 (hTt j hlt).1
    have hfu:=(hTt j hlt).2
    rw[Nat.zero_add]at hcu hfu
    go_wp2_with fail
    go_roundw
    case rel=>
     refine⟨j+1,by omega,by go_num,zaI hRm _ _ (fun h=>by simp at h;omega),?_,zP hTt _ _,zP hTr _ _,hB.setCell (p:=⟨w.heap.size+2,j,none⟩) (by simp) _⟩
     have:=zaa hRt j (.int .u8 z)
     rw[Nat.zero_add,zb5]at this
     have e1:(m.take j++zj.drop j).set j z=m.take (j+1)++zj.drop (j+1):=by
      have hl:(m.take j).length=j:=List.length_take_of_le (by omega)
      have hzl:j<zj.length:=hlt
      rw[List.set_append_right _ _ (by omega),hl,Nat.sub_self,List.drop_eq_getElem_cons hzl,List.set_cons_zero,List.take_succ_eq_append_getElem hjm,←hz.out,List.getD_eq_getElem?_getD,List.getElem?_eq_getElem hjm,List.append_assoc]
      rfl
     rw[e1]at this
     exact this
    case measure=>simp[intOf];omega
   ·have hj16:j=16:=by omega
    subst hj16
    obtain⟨t,ht⟩:∃t,Hid (m.take 16=t):=⟨_,hide rfl⟩
    have htl:t.length=16:=by rw[←ht.out,List.length_take];omega
    have hRt':wr.rangeAt (w.heap.size+2) 0 (v8 t):=by
     have e:m.take 16++zj.drop 16=t:=by rw[ht.out];simp[zj]
     rw[e]at hRt;exact hRt
    rw[ht.out]at HS
    have hl16:(prog.info? 23).map (·.size)=some (v8 t).length:=by simpa using zaC t htl
    have hTr':wr.there (w.heap.size+1) 0 (v8 t).toArray.size:=by
     have e:(v8 t).toArray.size=16:=by rw[List.size_toArray,v8_length,htl]
     rw[e];exact hTr
    have h1t:=all_oneCell_toArray (zy t)
    have hit:=zaC t htl
    have hRr:=World.rangeAt_setCells_same wr (w.heap.size+1) 0 (v8 t) (by rw[v8_length,htl];exact hTr)
    have hBl:=zi (show w.heap.size≤w.heap.size+1 by omega) (v8 t) 0 wr hB
    have hrs:=zdb htl hRr
    clear hRt
    go_upto_region 9 with fail
    refine wp_region_list ?_
    refine wpList_load_mid rfl 23 _ rfl _ _ rfl (v8 t) _ hRt' underlying23 rfl hl16 ?_
    refine wpList_store_mid rfl 23 _ _ rfl _ _ (v8 t).toArray rfl rfl hTr' hit h1t ?_
    generalize wr.setCells (w.heap.size+1) 0 (v8 t)=w9 at *
    go_wp2
    exact bodyPost_ret (v:=.tuple #[.agg (v8 t).toArray,.int .i64 0]) (by simp[results,results23,asAddr,hrs]) rfl ⟨by rw[HS.out],hBl⟩
theorem zjZ (seed:ByteArray) (n:Int) (w:World) (h1:¬n<1) (h2:¬4096<n) (h3:seed.size≤64):
  Calls prog 26 #[.string seed,.int .i64 n] w fun e w'=>e=.returned (.tuple #[.agg #[.string seed,.int .i64 n],.bool true])∧Below w.heap.size w w':=by
 have h3':¬(64:Int)<seed.size:=by omega
 go_enter func26,ntmps26
 go_wp2
 exact bodyPost_ret (v:=.tuple #[.agg #[.string seed,.int .i64 n],.bool true]) (by simp[results,results26,go_sem]) rfl ⟨rfl,(Below.refl _ _).alloc (Nat.le_refl _) _⟩
end Go.Proofs.YtcbpbkefggekmaaGreatDoor.Qs
namespace Go.Proofs.YtcbpbkefggekmaaGreatDoor.Rk
open Qs
open Go.RowKit
open Sha Tal
theorem zdd:(#[.int .u8 0,.int .u8 0,.int .u8 0,.int .u8 0,.int .u8 0,.int .u8 0,.int .u8 0,.int .u8 0,.int .u8 0,.int .u8 0,.int .u8 0,.int .u8 0,.int .u8 0,.int .u8 0,.int .u8 0,.int .u8 0]:Array Value)=(v8 zj).toArray:=by rfl
def tagV (ds:List (List Int)) (N c n:Int) (s:ByteArray):List Int ×Int:=
 if N<0∨64<N∨(ds.length:Int) - N≤c then(zj,2)else signOf ds (N+c) (strOf (bodyL c n s))
theorem zcI (w:World) (q z:List Value):Below w.heap.size w ((w.alloc (.cells q.toArray 81)).alloc (.cells z.toArray 23))∧
  ((w.alloc (.cells q.toArray 81)).alloc (.cells z.toArray 23)).rangeAt w.heap.size 0 q∧((w.alloc (.cells q.toArray 81)).alloc (.cells z.toArray 23)).there (w.heap.size+1) 0 z.length∧
  w.heap.size+1<((w.alloc (.cells q.toArray 81)).alloc (.cells z.toArray 23)).heap.size:=by
 have b1:Below w.heap.size w (w.alloc (.cells q.toArray 81)):=(Below.refl _ _).alloc (Nat.le_refl _) _
 have b2:Below (w.alloc (.cells q.toArray 81)).heap.size (w.alloc (.cells q.toArray 81)) ((w.alloc (.cells q.toArray 81)).alloc (.cells z.toArray 23)):=(Below.refl _ _).alloc (Nat.le_refl _) _
 refine⟨b1.trans (b2.mono b1.size),za (zC w q.toArray 81) b2 (by simp),?_,by simp⟩
 have:=zE (w.alloc (.cells q.toArray 81)) z.toArray 23
 simpa using this
theorem ziS (p:Option Addr) (ds:List (List Int)) (N c n:Int) (s:ByteArray) (t:List Int) (w:World) (h:KeysAt w p ds) (hN:N<0):
   Calls prog 62 #[.pointer p,.int .i64 N,.agg (reqL c n s t).toArray] w fun e w'=>e=.returned (.tuple #[.agg (v8 zj).toArray,.int .i64 2])∧Below w.heap.size w w':=by
  obtain⟨zs,hzs⟩:∃zs,Hid (v8 zj=zs):=⟨_,hide rfl⟩
  have hqc:=fun w' b=>@zbS w' b c n s t
  obtain⟨q,hq⟩:∃q,Hid (reqL c n s t=q):=⟨_,hide rfl⟩
  obtain⟨hB,hR,hT,hz⟩:=zcI w q zs
  have hlit:=zdd
  have hi:(prog.info? 23).map (·.size)=some (v8 zj).toArray.size:=zaC zj rfl
  have ho:=all_oneCell_toArray (zy zj)
  have hl:(v8 zj).length=16:=rfl
  have hi':(prog.info? 23).map (·.size)=some (v8 zj).length:=by rw[hl];exact iszT
  rw[hzs.out]at hlit hi ho hl hi'
  have HL:Hid (zs.length=16):=hl
  clear hl
  rw[hzs.out]
  simp only[hq.out]at hqc
  rw[hq.out]
  go_enter func62,ntmps62
  go_wp2_with fail
  go_name_world w2 hw2
  rw[hw2]at hB hR hT hz
  clear hw2
  have hB4:=hB.drew
  have hR4:w2.drew.rangeAt w.heap.size 0 q:=(World.rangeAt_drew _ _ _ _).2 hR
  have hT4:w2.drew.there (w.heap.size+1) 0 zs.toArray.size:=(World.there_drew _ _ _ _).2 hT
  have hz4:w.heap.size+1<w2.drew.heap.size:=hz
  have h4:=h.below hB4
  clear hB hR hT hz h
  obtain⟨X,hX⟩:∃X,Hid (w.heap.size=X):=⟨_,hide rfl⟩
  rw[hX.out]at hR4 hT4 hz4 ⊢
  obtain⟨w5,hw5⟩:∃w5,w2.drew=w5:=⟨_,rfl⟩
  rw[hw5]at hB4 hR4 hT4 hz4 h4
  have c0:∀w',Below w5.heap.size w5 w'→w'.cell? ⟨X,0,none⟩=some (.int .i64 c):=fun w' hw'=>(hqc w' X (za hR4 hw' (by omega))).1
  refine zw (S:=(Below w5.heap.size w5)) 15 rfl (by kernel_rfl) ?_
  rw[hw5]
  clear hw5
  have hS:(Below w5.heap.size w5) w5:=Below.refl _ _
  refine hs_a 0 8 hS ?_
  refine hs_v 1 9 (.bool true) rfl (fun w' hw=>by go_simp) hS ?_
  refine hs_a 2 10 hS ?_
  refine hs_k 3 11 hS ?_
  refine hs_k 4 12 hS ?_
  refine hs_a 5 13 hS ?_
  refine hs_a 6 14 hS ?_
  refine hs_k 7 15 hS ?_
  refine hs_k 8 16 hS ?_
  refine hs_k 9 17 hS ?_
  refine hs_k 10 18 hS ?_
  refine hs_k 11 19 hS ?_
  refine hs_k 12 20 hS ?_
  refine hs_k 13 21 hS ?_
  refine hs_a 14 22 hS ?_
  refine zv (by kernel_rfl) ?_
  clear c0 hR4 h4 hqc
  have hrs:=run_loadVar_mid (P:=prog) (w5.setCells (X+1) 0 zs) (X+1) 0 23 zs _ (World.rangeAt_setCells_same w5 (X+1) 0 zs (by have:=hT4;simpa using this)) underlying23 rfl hi'
  have hBl:Below w.heap.size w (w5.setCells (X+1) 0 zs):=zi (by rw[hX.out];omega) _ 0 w5 hB4
  go_wp2_with (refine wpList_store_mid rfl 23 _ _ rfl _ _ zs.toArray rfl rfl hT4 hi ho ?_)
  exact bodyPost_ret (v:=.tuple #[.agg zs.toArray,.int .i64 2]) (by simp[results,results62,asAddr,hrs]) rfl ⟨rfl,hBl⟩
theorem ziR (p:Option Addr) (ds:List (List Int)) (N c n:Int) (s:ByteArray) (t:List Int) (w:World) (h:KeysAt w p ds) (hN:¬N<0) (hN2:64<N):
   Calls prog 62 #[.pointer p,.int .i64 N,.agg (reqL c n s t).toArray] w fun e w'=>e=.returned (.tuple #[.agg (v8 zj).toArray,.int .i64 2])∧Below w.heap.size w w':=by
  obtain⟨zs,hzs⟩:∃zs,Hid (v8 zj=zs):=⟨_,hide rfl⟩
  have hqc:=fun w' b=>@zbS w' b c n s t
  obtain⟨q,hq⟩:∃q,Hid (reqL c n s t=q):=⟨_,hide rfl⟩
  obtain⟨hB,hR,hT,hz⟩:=zcI w q zs
  have hlit:=zdd
  have hi:(prog.info? 23).map (·.size)=some (v8 zj).toArray.size:=zaC zj rfl
  have ho:=all_oneCell_toArray (zy zj)
  have hl:(v8 zj).length=16:=rfl
  have hi':(prog.info? 23).map (·.size)=some (v8 zj).length:=by rw[hl];exact iszT
  rw[hzs.out]at hlit hi ho hl hi'
  have HL:Hid (zs.length=16):=hl
  clear hl
  rw[hzs.out]
  simp only[hq.out]at hqc
  rw[hq.out]
  go_enter func62,ntmps62
  go_wp2_with fail
  go_name_world w2 hw2
  rw[hw2]at hB hR hT hz
  clear hw2
  have hB4:=hB.drew
  have hR4:w2.drew.rangeAt w.heap.size 0 q:=(World.rangeAt_drew _ _ _ _).2 hR
  have hT4:w2.drew.there (w.heap.size+1) 0 zs.toArray.size:=(World.there_drew _ _ _ _).2 hT
  have hz4:w.heap.size+1<w2.drew.heap.size:=hz
  have h4:=h.below hB4
  clear hB hR hT hz h
  obtain⟨X,hX⟩:∃X,Hid (w.heap.size=X):=⟨_,hide rfl⟩
  rw[hX.out]at hR4 hT4 hz4 ⊢
  obtain⟨w5,hw5⟩:∃w5,w2.drew=w5:=⟨_,rfl⟩
  rw[hw5]at hB4 hR4 hT4 hz4 h4
  have c0:∀w',Below w5.heap.size w5 w'→w'.cell? ⟨X,0,none⟩=some (.int .i64 c):=fun w' hw'=>(hqc w' X (za hR4 hw' (by omega))).1
  refine zw (S:=(Below w5.heap.size w5)) 15 rfl (by kernel_rfl) ?_
  rw[hw5]
  clear hw5
  have hS:(Below w5.heap.size w5) w5:=Below.refl _ _
  refine hs_a 0 8 hS ?_
  refine hs_v 1 9 (.bool false) rfl (fun w' hw=>by go_simp) hS ?_
  refine hs_a 2 10 hS ?_
  refine hs_a 3 11 hS ?_
  refine hs_v 4 12 (.bool true) rfl (fun w' hw=>by go_simp) hS ?_
  refine hs_a 5 13 hS ?_
  refine hs_a 6 14 hS ?_
  refine hs_k 7 15 hS ?_
  refine hs_k 8 16 hS ?_
  refine hs_k 9 17 hS ?_
  refine hs_k 10 18 hS ?_
  refine hs_k 11 19 hS ?_
  refine hs_k 12 20 hS ?_
  refine hs_k 13 21 hS ?_
  refine hs_a 14 22 hS ?_
  refine zv (by kernel_rfl) ?_
  clear c0 hR4 h4 hqc
  have hrs:=run_loadVar_mid (P:=prog) (w5.setCells (X+1) 0 zs) (X+1) 0 23 zs _ (World.rangeAt_setCells_same w5 (X+1) 0 zs (by have:=hT4;simpa using this)) underlying23 rfl hi'
  have hBl:Below w.heap.size w (w5.setCells (X+1) 0 zs):=zi (by rw[hX.out];omega) _ 0 w5 hB4
  go_wp2_with (refine wpList_store_mid rfl 23 _ _ rfl _ _ zs.toArray rfl rfl hT4 hi ho ?_)
  exact bodyPost_ret (v:=.tuple #[.agg zs.toArray,.int .i64 2]) (by simp[results,results62,asAddr,hrs]) rfl ⟨rfl,hBl⟩
theorem ziQ (p:Option Addr) (ds:List (List Int)) (N c n:Int) (s:ByteArray) (t:List Int) (w:World) (h:KeysAt w p ds) (hN:¬N<0) (hN2:¬64<N) (hc:(ds.length:Int) - N≤c):
   Calls prog 62 #[.pointer p,.int .i64 N,.agg (reqL c n s t).toArray] w fun e w'=>e=.returned (.tuple #[.agg (v8 zj).toArray,.int .i64 2])∧Below w.heap.size w w':=by
  obtain⟨zs,hzs⟩:∃zs,Hid (v8 zj=zs):=⟨_,hide rfl⟩
  have hqc:=fun w' b=>@zbS w' b c n s t
  obtain⟨q,hq⟩:∃q,Hid (reqL c n s t=q):=⟨_,hide rfl⟩
  obtain⟨hB,hR,hT,hz⟩:=zcI w q zs
  have hlit:=zdd
  have hi:(prog.info? 23).map (·.size)=some (v8 zj).toArray.size:=zaC zj rfl
  have ho:=all_oneCell_toArray (zy zj)
  have hl:(v8 zj).length=16:=rfl
  have hi':(prog.info? 23).map (·.size)=some (v8 zj).length:=by rw[hl];exact iszT
  rw[hzs.out]at hlit hi ho hl hi'
  have HL:Hid (zs.length=16):=hl
  clear hl
  have hdl:=h.len
  have hw64:IntKind.i64.wrap ((ds.length:Int) - N)=(ds.length:Int) - N:=by rw[IntKind.wrap_i64];omega
  rw[hzs.out]
  simp only[hq.out]at hqc
  rw[hq.out]
  go_enter func62,ntmps62
  go_wp2_with fail
  go_name_world w2 hw2
  rw[hw2]at hB hR hT hz
  clear hw2
  have hB4:=hB.drew
  have hR4:w2.drew.rangeAt w.heap.size 0 q:=(World.rangeAt_drew _ _ _ _).2 hR
  have hT4:w2.drew.there (w.heap.size+1) 0 zs.toArray.size:=(World.there_drew _ _ _ _).2 hT
  have hz4:w.heap.size+1<w2.drew.heap.size:=hz
  have h4:=h.below hB4
  clear hB hR hT hz h
  obtain⟨X,hX⟩:∃X,Hid (w.heap.size=X):=⟨_,hide rfl⟩
  rw[hX.out]at hR4 hT4 hz4 ⊢
  obtain⟨w5,hw5⟩:∃w5,w2.drew=w5:=⟨_,rfl⟩
  rw[hw5]at hB4 hR4 hT4 hz4 h4
  have c0:∀w',Below w5.heap.size w5 w'→w'.cell? ⟨X,0,none⟩=some (.int .i64 c):=fun w' hw'=>(hqc w' X (za hR4 hw' (by omega))).1
  refine zw (S:=(Below w5.heap.size w5)) 15 rfl (by kernel_rfl) ?_
  rw[hw5]
  clear hw5
  have hS:(Below w5.heap.size w5) w5:=Below.refl _ _
  refine hs_a 0 8 hS ?_
  refine hs_v 1 9 (.bool false) rfl (fun w' hw=>by go_simp) hS ?_
  refine hs_a 2 10 hS ?_
  refine hs_a 3 11 hS ?_
  refine hs_v 4 12 (.bool false) rfl (fun w' hw=>by go_simp) hS ?_
  refine hs_a 5 13 hS ?_
  refine hs_a 6 14 hS ?_
  refine hs_a 7 15 hS ?_
  refine hs_t 8 16 (?_) rfl (by kernel_rfl) (by kernel_rfl) (by kernel_rfl) (by rfl) ?_ hS rfl ?_
  rotate_left
  · intro w' hw
    have hc:=c0 w' hw
    go_simp
    try with_reducible rfl
  simp only[nz]
  refine hs_a 9 17 hS ?_
  refine hs_a 11 19 hS ?_
  have ck:=zbl p ds w5 h4
  refine hs_c 10 18 ?_
  refine(ck).mono ?_
  rintro e' w9 ⟨rfl,hx9⟩
  have hS:(Below w5.heap.size w5) w9:=by rw[hx9];exact hS
  refine⟨_,rfl,hS,?_⟩
  simp only[nz]
  obtain rfl:=hx9.symm
  clear ck hx9
  refine hs_v 12 20 (.int .i64 ((ds.length:Int) - N)) rfl (fun w' hw=>by go_simp) hS ?_
  refine hs_v 13 21 (.bool true) rfl (fun w' hw=>by go_simp) hS ?_
  refine hs_a 14 22 hS ?_
  refine zv (by kernel_rfl) ?_
  clear c0 hR4 h4 hqc
  have hrs:=run_loadVar_mid (P:=prog) (w5.setCells (X+1) 0 zs) (X+1) 0 23 zs _ (World.rangeAt_setCells_same w5 (X+1) 0 zs (by have:=hT4;simpa using this)) underlying23 rfl hi'
  have hBl:Below w.heap.size w (w5.setCells (X+1) 0 zs):=zi (by rw[hX.out];omega) _ 0 w5 hB4
  go_wp2_with (refine wpList_store_mid rfl 23 _ _ rfl _ _ zs.toArray rfl rfl hT4 hi ho ?_)
  exact bodyPost_ret (v:=.tuple #[.agg zs.toArray,.int .i64 2]) (by simp[results,results62,asAddr,hrs]) rfl ⟨rfl,hBl⟩
theorem ziP (p:Option Addr) (ds:List (List Int)) (N c n:Int) (s:ByteArray) (t:List Int) (w:World) (h:KeysAt w p ds) (hG:Glob w) (ht:t.length=16) (hN:¬N<0) (hN2:¬64<N) (hc:¬(ds.length:Int) - N≤c) (hc0:-1000000≤c) (hn:n≤9223372036854775807) (hs:s.size≤100000) (hbsz:(strOf (bodyL c n s)).size≤100000):
   Calls prog 62 #[.pointer p,.int .i64 N,.agg (reqL c n s t).toArray] w fun e w'=>e=.returned (.tuple #[.agg (v8 (signOf ds (N+c) (strOf (bodyL c n s))).1).toArray,.int .i64 (signOf ds (N+c) (strOf (bodyL c n s))).2])∧Below w.heap.size w w':=by
  obtain⟨zs,hzs⟩:∃zs,Hid (v8 zj=zs):=⟨_,hide rfl⟩
  have hqc:=fun w' b=>@zbS w' b c n s t
  obtain⟨q,hq⟩:∃q,Hid (reqL c n s t=q):=⟨_,hide rfl⟩
  obtain⟨hB,hR,hT,hz⟩:=zcI w q zs
  have hlit:=zdd
  have hi:(prog.info? 23).map (·.size)=some (v8 zj).toArray.size:=zaC zj rfl
  have ho:=all_oneCell_toArray (zy zj)
  have hl:(v8 zj).length=16:=rfl
  have hi':(prog.info? 23).map (·.size)=some (v8 zj).length:=by rw[hl];exact iszT
  rw[hzs.out]at hlit hi ho hl hi'
  have HL:Hid (zs.length=16):=hl
  clear hl
  have hdl:=h.len
  have hw64:IntKind.i64.wrap ((ds.length:Int) - N)=(ds.length:Int) - N:=by rw[IntKind.wrap_i64];omega
  have hw65:IntKind.i64.wrap (N+c)=N+c:=by rw[IntKind.wrap_i64];omega
  have hiq:(prog.info? 81).map (·.size)=some (reqL c n s t).length:=by rw[za2 c n s t ht];exact iszR
  rw[hq.out]at hiq
  have cb:=fun w0=>zhL c n s t w0 ht (by omega) hn hs
  simp only[hq.out]at cb
  have hbs:=hbsz
  obtain⟨bd,hbd⟩:∃bd,Hid (strOf (bodyL c n s)=bd):=⟨_,hide rfl⟩
  simp only[hbd.out]at cb
  rw[hbd.out]at hbs
  rw[hbd.out]
  have cs:=fun w0 hG0 h0=>zee p ds (N+c) bd w0 hG0 h0 (.inr hbs)
  have hrl0:=zaN ds (N+c) bd
  obtain⟨er,her⟩:∃er,Hid ((signOf ds (N+c) bd).2=er):=⟨_,hide rfl⟩
  obtain⟨r0,hr0⟩:∃r0,Hid ((signOf ds (N+c) bd).1=r0):=⟨_,hide rfl⟩
  simp only[her.out,hr0.out]at cs
  rw[hr0.out]at hrl0
  rw[her.out,hr0.out]
  have hir:=zaC r0 hrl0
  have hor:=all_oneCell_toArray (zy r0)
  have hir':(prog.info? 23).map (·.size)=some (v8 r0).length:=by rw[v8_length,hrl0];exact iszT
  have hrl:Hid ((v8 r0).length=16):=by show _=_;rw[v8_length,hrl0]
  obtain⟨r,hr⟩:∃r,Hid (v8 r0=r):=⟨_,hide rfl⟩
  simp only[hr.out]at cs
  rw[hr.out]at hir hor hir' hrl
  rw[hr.out]
  clear hrl0 hbsz hbs
  simp only[hq.out]at hqc
  rw[hq.out]
  go_enter func62,ntmps62
  go_wp2_with fail
  go_name_world w2 hw2
  rw[hw2]at hB hR hT hz
  clear hw2
  have hB4:=hB.drew
  have hR4:w2.drew.rangeAt w.heap.size 0 q:=(World.rangeAt_drew _ _ _ _).2 hR
  have hT4:w2.drew.there (w.heap.size+1) 0 zs.toArray.size:=(World.there_drew _ _ _ _).2 hT
  have hz4:w.heap.size+1<w2.drew.heap.size:=hz
  have h4:=h.below hB4
  clear hB hR hT hz h
  obtain⟨X,hX⟩:∃X,Hid (w.heap.size=X):=⟨_,hide rfl⟩
  rw[hX.out]at hR4 hT4 hz4 ⊢
  obtain⟨w5,hw5⟩:∃w5,w2.drew=w5:=⟨_,rfl⟩
  rw[hw5]at hB4 hR4 hT4 hz4 h4
  have c0:∀w',Below w5.heap.size w5 w'→w'.cell? ⟨X,0,none⟩=some (.int .i64 c):=fun w' hw'=>(hqc w' X (za hR4 hw' (by omega))).1
  refine zw (S:=(Below w5.heap.size w5)) 15 rfl (by kernel_rfl) ?_
  rw[hw5]
  clear hw5
  have hS:(Below w5.heap.size w5) w5:=Below.refl _ _
  refine hs_a 0 8 hS ?_
  refine hs_v 1 9 (.bool false) rfl (fun w' hw=>by go_simp) hS ?_
  refine hs_a 2 10 hS ?_
  refine hs_a 3 11 hS ?_
  refine hs_v 4 12 (.bool false) rfl (fun w' hw=>by go_simp) hS ?_
  refine hs_a 5 13 hS ?_
  refine hs_a 6 14 hS ?_
  refine hs_a 7 15 hS ?_
  refine hs_t 8 16 (?_) rfl (by kernel_rfl) (by kernel_rfl) (by kernel_rfl) (by rfl) ?_ hS rfl ?_
  rotate_left
  · intro w' hw
    have hc:=c0 w' hw
    go_simp
    try with_reducible rfl
  simp only[nz]
  refine hs_a 9 17 hS ?_
  refine hs_a 11 19 hS ?_
  have ck:=zbl p ds w5 h4
  refine hs_c 10 18 ?_
  refine(ck).mono ?_
  rintro e' w9 ⟨rfl,hx9⟩
  have hS:(Below w5.heap.size w5) w9:=by rw[hx9];exact hS
  refine⟨_,rfl,hS,?_⟩
  simp only[nz]
  obtain rfl:=hx9.symm
  clear ck hx9
  refine hs_v 12 20 (.int .i64 ((ds.length:Int) - N)) rfl (fun w' hw=>by go_simp) hS ?_
  refine hs_v 13 21 (.bool false) rfl (fun w' hw=>by go_simp) hS ?_
  refine hs_a 14 22 hS ?_
  refine zv (by kernel_rfl) ?_
  clear c0
  have hB6:=hB4.drew
  have hR6:w5.drew.rangeAt X 0 q:=(World.rangeAt_drew _ _ _ _).2 hR4
  have hT6:w5.drew.there (X+1) 0 zs.toArray.size:=(World.there_drew _ _ _ _).2 hT4
  have hz6:X+1<w5.drew.heap.size:=hz4
  have h6:=h4.below (Below.refl w5.heap.size w5).drew
  clear hB4 hR4 hT4 hz4 h4
  go_wp2_with fail
  obtain⟨w6,hw6⟩:∃w6,w5.drew=w6:=⟨_,rfl⟩
  rw[hw6]at hB6 hR6 hT6 hz6 h6
  refine zw (S:=(fun W:World=>W.rangeAt X 0 q∧Below w.heap.size w W)) 12 rfl (by kernel_rfl) ?_
  rw[hw6]
  clear hw6
  have hS:(fun W:World=>W.rangeAt X 0 q∧Below w.heap.size w W) w6:=⟨hR6,hB6⟩
  refine hs_a 0 24 hS ?_
  refine hs_a 1 25 hS ?_
  refine hs_a 2 26 hS ?_
  refine hs_t 3 27 (?_) rfl (by kernel_rfl) (by kernel_rfl) (by kernel_rfl) (by rfl) ?_ hS rfl ?_
  rotate_left
  · intro w' hw
    have hc:=(hqc w' X hw.1).1
    go_simp
    try with_reducible rfl
  simp only[nz]
  refine hs_v 4 28 (.int .i64 (N+c)) rfl (fun w' hw=>by go_simp) hS ?_
  refine hs_v 5 29 (.agg q.toArray) rfl (fun w' hw=>zcr rfl rfl (run_loadVar_mid (P:=prog) w' X 0 81 q _ hw.1 underlying81 rfl hiq)) hS ?_
  have cb6:=cb w6
  refine hs_c 6 30 ?_
  refine(cb6).mono ?_
  rintro e' w7 ⟨rfl,hw7⟩
  have hS:(fun W:World=>W.rangeAt X 0 q∧Below w.heap.size w W) w7:=⟨za hS.1 hw7 (by omega),hS.2.trans (hw7.mono hS.2.size)⟩
  refine⟨_,rfl,hS,?_⟩
  simp only[nz]
  have hT7:=zg hT6 hw7 hz6
  have hz7:=Nat.lt_of_lt_of_le hz6 hw7.size
  have cs7:=cs w7 (hG.below hS.2) (h6.below hw7)
  clear cb6 hw7 hT6 hz6 h6
  refine hs_c 7 31 ?_
  refine(cs7).mono ?_
  rintro e' w8 ⟨rfl,hw8⟩
  have hS:(fun W:World=>W.rangeAt X 0 q∧Below w.heap.size w W) w8:=⟨za hS.1 hw8 (by omega),hS.2.trans (hw8.mono hS.2.size)⟩
  refine⟨_,rfl,hS,?_⟩
  simp only[nz]
  have hT8:=zg hT7 hw8 hz7
  clear cs7 hw8 hT7 hz7
  refine hs_a 8 32 hS ?_
  refine hs_a 9 33 hS ?_
  have hTr:w8.there (X+1) 0 r.toArray.size:=by
    have e:r.toArray.size=zs.toArray.size:=by rw[List.size_toArray,List.size_toArray,hrl.out,HL.out]
    rw[e];exact hT8
  have hBl:Below w.heap.size w (w8.setCells (X+1) 0 r):=zi (by rw[hX.out];omega) _ 0 w8 hS.2
  have hrs:=run_loadVar_mid (P:=prog) (w8.setCells (X+1) 0 r) (X+1) 0 23 r _ (World.rangeAt_setCells_same w8 (X+1) 0 r (by have:=hTr;simpa using this)) underlying23 rfl hir'
  have hst:=run_storeVar_mid (P:=prog) w8 (X+1) 0 23 r.toArray hTr hir hor
  refine zG (i:=10) (w':=(w8.setCells (X+1) 0 r)) rfl (by kernel_rfl) (by rfl) (zbG rfl rfl rfl hst) rfl ⟨World.rangeAt_setCells_apart hS.1 (X+1) 0 r (.inl (by omega)),hBl⟩ ?_
  have hS:(fun W:World=>W.rangeAt X 0 q∧Below w.heap.size w W) (w8.setCells (X+1) 0 r):=⟨World.rangeAt_setCells_apart hS.1 (X+1) 0 r (.inl (by omega)),hBl⟩
  refine hs_a 11 7 hS ?_
  refine zv (by kernel_rfl) ?_
  go_wp2_with fail
  exact bodyPost_ret (v:=.tuple #[.agg r.toArray,.int .i64 er]) (by simp[results,results62,asAddr,hrs]) rfl ⟨rfl,hBl⟩
theorem zm7 (c n:Int) (s:ByteArray) (hc:c≤9223372036854775807) (hn:n≤9223372036854775807) (hs:s.size≤90000):(bodyL c n s).length≤100000:=by
 have h1:=zab c (by omega)
 have h2:=zab n (by omega)
 have h3:=zab s.size (by omega)
 simp only[bodyL,textL,List.length_append,zN,List.length_cons,List.length_nil]
 omega
theorem zjT {w:World} {b:Nat} {c n:Int} {s:ByteArray} {t u:List Int} (h:w.rangeAt b 0 (reqL c n s t)) (hu:u.length=16) (hT:w.there b 0 19):(w.setCells b 3 (v8 u)).rangeAt b 0 (reqL c n s u):=by
 have e:∀x,reqL c n s x=[.int .i64 c,.int .i64 n,.string s]++v8 x:=fun _=>rfl
 rw[e]at h ⊢
 refine za4 (World.rangeAt_setCells_apart (zI h) b 3 (v8 u) (.inr (.inl (by simp)))) ?_
 exact World.rangeAt_setCells_same w b 3 (v8 u) (zL hT 3 _ (by rw[v8_length,hu];omega))
theorem ziT (p:Option Addr) (ds:List (List Int)) (N c n:Int) (s:ByteArray) (t:List Int) (w:World) (h:KeysAt w p ds) (hG:Glob w) (ht:t.length=16) (hc0:0≤c) (hcm:c≤9223372036854775807) (hn:n≤9223372036854775807) (hs:s.size≤64):
   Calls prog 62 #[.pointer p,.int .i64 N,.agg (reqL c n s t).toArray] w fun e w'=>e=.returned (.tuple #[.agg (v8 (tagV ds N c n s).1).toArray,.int .i64 (tagV ds N c n s).2])∧Below w.heap.size w w':=by
  unfold tagV
  by_cases hN:N<0
  · rw[if_pos (.inl hN)];exact ziS p ds N c n s t w h hN
  · by_cases hN2:64<N
    · rw[if_pos (.inr (.inl hN2))];exact ziR p ds N c n s t w h hN hN2
    · by_cases hc:(ds.length:Int) - N≤c
      · rw[if_pos (.inr (.inr hc))];exact ziQ p ds N c n s t w h hN hN2 hc
      · rw[if_neg (by omega)]
        exact ziP p ds N c n s t w h hG ht hN hN2 hc (by omega) hn (by omega) (by rw[zbO];exact zm7 c n s hcm hn (by omega))
theorem ziU (ds:List (List Int)) (N c n:Int) (s:ByteArray):(tagV ds N c n s).1.length=16:=by
 unfold tagV;split
 ·rfl
 ·exact zaN _ _ _
theorem zkX (p:Option Addr) (ds:List (List Int)) (N c n:Int) (s:ByteArray) (w:World) (h:KeysAt w p ds) (hG:Glob w) (hd:0<ds.length) (hm:0≤c∧c<8∧1≤n∧n≤1099511627776∧s.size≤64) (hne:(tagV ds N c n s).2=0):
   Calls prog 24 #[.pointer p,.int .i64 N,.int .i64 c,.int .i64 n,.string s] w fun e w'=>e=.returned (.tuple #[.agg (reqL c n s (tagV ds N c n s).1).toArray,.int .i64 0])∧Below w.heap.size w w':=by
  have ct:=fun w0 h0 hG0=>ziT p ds N c n s zj w0 h0 hG0 rfl (by omega) (by omega) (by omega) (by omega)
  have hrl0:=ziU ds N c n s
  obtain⟨er,her⟩:∃er,Hid ((tagV ds N c n s).2=er):=⟨_,hide rfl⟩
  obtain⟨r0,hr0⟩:∃r0,Hid ((tagV ds N c n s).1=r0):=⟨_,hide rfl⟩
  simp only[her.out,hr0.out]at ct
  rw[hr0.out]at hrl0
  rw[her.out]at hne
  rw[hr0.out]
  subst hne
  have hir:=zaC r0 hrl0
  have hor:=all_oneCell_toArray (zy r0)
  have hir':(prog.info? 23).map (·.size)=some (v8 r0).length:=by rw[v8_length,hrl0];exact iszT
  have hput:=fun(w0:World) (b0:Nat) h1 h2=>@zjT w0 b0 c n s zj r0 h1 hrl0 h2
  have hiR:(prog.info? 81).map (·.size)=some (reqL c n s r0).toArray.size:=by rw[List.size_toArray,za2 c n s r0 hrl0];exact iszR
  have hoR:=all_oneCell_toArray (zcc c n s r0)
  have hRl:(reqL c n s r0).toArray.size=19:=by rw[List.size_toArray,za2 c n s r0 hrl0]
  have hrl:Hid ((v8 r0).length=16):=by show _=_;rw[v8_length,hrl0]
  obtain⟨r,hr⟩:∃r,Hid (v8 r0=r):=⟨_,hide rfl⟩
  obtain⟨Q,hQ⟩:∃Q,Hid (reqL c n s r0=Q):=⟨_,hide rfl⟩
  simp only[hr.out]at ct
  rw[hr.out]at hir hor hir' hrl
  rw[hQ.out]at hiR hoR hRl
  simp only[hr.out,hQ.out]at hput
  have hRl':=hide hRl
  have hiR':(prog.info? 81).map (·.size)=some Q.length:=by simpa using hiR
  clear hrl0 hRl
  rw[hQ.out]
  have hi0:(prog.info? 81).map (·.size)=some (reqL c n s zj).toArray.size:=by rw[List.size_toArray,za2 _ _ _ _ rfl];exact iszR
  have h1c:=all_oneCell_toArray (zcc c n s zj)
  have hB0:Below w.heap.size w (w.alloc (.cells #[.int .i64 0,.int .i64 0,.string ⟨#[]⟩,.int .u8 0,.int .u8 0,.int .u8 0,.int .u8 0,.int .u8 0,.int .u8 0,.int .u8 0,.int .u8 0,.int .u8 0,.int .u8 0,.int .u8 0,.int .u8 0,.int .u8 0,.int .u8 0,.int .u8 0,.int .u8 0] 81)):=(Below.refl _ _).alloc (Nat.le_refl _) _
  have ht0:(w.alloc (.cells #[.int .i64 0,.int .i64 0,.string ⟨#[]⟩,.int .u8 0,.int .u8 0,.int .u8 0,.int .u8 0,.int .u8 0,.int .u8 0,.int .u8 0,.int .u8 0,.int .u8 0,.int .u8 0,.int .u8 0,.int .u8 0,.int .u8 0,.int .u8 0,.int .u8 0,.int .u8 0] 81)).there w.heap.size 0 19:=zE w #[.int .i64 0,.int .i64 0,.string ⟨#[]⟩,.int .u8 0,.int .u8 0,.int .u8 0,.int .u8 0,.int .u8 0,.int .u8 0,.int .u8 0,.int .u8 0,.int .u8 0,.int .u8 0,.int .u8 0,.int .u8 0,.int .u8 0,.int .u8 0,.int .u8 0,.int .u8 0] 81
  have hz0:w.heap.size<(w.alloc (.cells #[.int .i64 0,.int .i64 0,.string ⟨#[]⟩,.int .u8 0,.int .u8 0,.int .u8 0,.int .u8 0,.int .u8 0,.int .u8 0,.int .u8 0,.int .u8 0,.int .u8 0,.int .u8 0,.int .u8 0,.int .u8 0,.int .u8 0,.int .u8 0,.int .u8 0,.int .u8 0] 81)).heap.size:=by simp
  go_enter func24,ntmps24
  go_upto_region 1 with fail
  go_name_world w1 hw1
  rw[show w.alloc (.cells #[.int .i64 0,.int .i64 0,.string ⟨#[]⟩,.int .u8 0,.int .u8 0,.int .u8 0,.int .u8 0,.int .u8 0,.int .u8 0,.int .u8 0,.int .u8 0,.int .u8 0,.int .u8 0,.int .u8 0,.int .u8 0,.int .u8 0,.int .u8 0,.int .u8 0,.int .u8 0] 81)=w1 from hw1]at ht0 hB0 hz0
  clear hw1
  have F:=zq w1 #[.int .i64 0,.int .i64 0,.string ⟨#[]⟩,.int .u8 0,.int .u8 0,.int .u8 0,.int .u8 0,.int .u8 0,.int .u8 0,.int .u8 0,.int .u8 0,.int .u8 0,.int .u8 0,.int .u8 0,.int .u8 0,.int .u8 0,.int .u8 0,.int .u8 0,.int .u8 0] 81 (reqL c n s zj) (by rw[za2 _ _ _ _ rfl];rfl)
  have hN1:(w1.alloc (.cells #[.int .i64 0,.int .i64 0,.string ⟨#[]⟩,.int .u8 0,.int .u8 0,.int .u8 0,.int .u8 0,.int .u8 0,.int .u8 0,.int .u8 0,.int .u8 0,.int .u8 0,.int .u8 0,.int .u8 0,.int .u8 0,.int .u8 0,.int .u8 0,.int .u8 0,.int .u8 0] 81)).there w1.heap.size 0 (reqL c n s zj).toArray.size:=zE w1 #[.int .i64 0,.int .i64 0,.string ⟨#[]⟩,.int .u8 0,.int .u8 0,.int .u8 0,.int .u8 0,.int .u8 0,.int .u8 0,.int .u8 0,.int .u8 0,.int .u8 0,.int .u8 0,.int .u8 0,.int .u8 0,.int .u8 0,.int .u8 0,.int .u8 0,.int .u8 0] 81
  go_upto_region 2 with(refine wpList_store_mid (op:=⟨none,.store 81 (.tmp 12) (.tmp 18),_,_,_,none⟩) rfl 81 _ _ rfl _ _ (reqL c n s zj).toArray rfl rfl hN1 hi0 h1c ?_)
  go_name_world w2 hw2
  rw[show(w1.alloc (.cells #[.int .i64 0,.int .i64 0,.string ⟨#[]⟩,.int .u8 0,.int .u8 0,.int .u8 0,.int .u8 0,.int .u8 0,.int .u8 0,.int .u8 0,.int .u8 0,.int .u8 0,.int .u8 0,.int .u8 0,.int .u8 0,.int .u8 0,.int .u8 0,.int .u8 0,.int .u8 0] 81)).setCells w1.heap.size 0 (reqL c n s zj)=w2 from hw2]at F
  clear hw2 hN1 h1c
  obtain⟨hR2,hF2,hz2,hT2⟩:=F
  have hT2:w2.there w1.heap.size 0 19:=hT2
  have hB2:=hB0.trans (hF2.mono hB0.size)
  have ht2:=zg ht0 hF2 hz0
  have hi0':(prog.info? 81).map (·.size)=some (reqL c n s zj).length:=by rw[za2 _ _ _ _ rfl];exact iszR
  clear hB0 ht0 hF2 hi0
  simp only[Act.put]
  generalize Value.agg #[Value.int IntKind.i64 c,Value.int IntKind.i64 n,Value.string s,Value.int IntKind.u8 0,Value.int IntKind.u8 0,Value.int IntKind.u8 0,Value.int IntKind.u8 0,Value.int IntKind.u8 0,Value.int IntKind.u8 0,Value.int IntKind.u8 0,Value.int IntKind.u8 0,Value.int IntKind.u8 0,Value.int IntKind.u8 0,Value.int IntKind.u8 0,Value.int IntKind.u8 0,Value.int IntKind.u8 0,Value.int IntKind.u8 0,Value.int IntKind.u8 0,Value.int IntKind.u8 0]=v18
  obtain⟨X,hX⟩:∃X,Hid (w.heap.size=X):=⟨_,hide rfl⟩
  obtain⟨Y,hY⟩:∃Y,Hid (w1.heap.size=Y):=⟨_,hide rfl⟩
  have hXY:X<Y:=by rw[←hX.out,←hY.out];exact hz0
  have hY2:Y<w2.heap.size:=by rw[hz2,hY.out];omega
  clear hz0 hz2
  rw[hX.out]at ht2 ⊢
  rw[hY.out]at hR2 hT2 ⊢
  have ck:=zbl p ds w2 (h.below hB2)
  have cm:=fun w0=>zkW c n 8 s zj w0
  have hmb:decide (0≤c∧c<8∧1≤n∧n≤1099511627776∧s.size≤64)=true:=decide_eq_true hm
  simp only[hmb]at cm
  clear hmb
  obtain⟨q,hq⟩:∃q,Hid (reqL c n s zj=q):=⟨_,hide rfl⟩
  rw[hq.out]at hR2 hi0'
  simp only[hq.out]at cm ct
  simp only[hq.out]at hput
  have hd0:((ds.length:Int)==0)=false:=by simp;exact List.ne_nil_of_length_pos hd
  have hd1:¬(ds.length:Int)=0:=by omega
  have HD:=hide hd
  clear hd
  go_wp2_with fail
  refine ck.mono ?_
  rintro e w3 ⟨rfl,hx⟩
  obtain rfl:=hx.symm
  clear hx ck
  go_upto_region 4 with fail
  try simp only[Act.put]
  refine wp_region_list ?_
  refine wpList_load_mid rfl 81 _ rfl _ _ rfl q _ hR2 underlying81 rfl hi0' ?_
  go_wp2_with fail
  refine(cm w2).mono ?_
  rintro e w3 ⟨rfl,hw3⟩
  have hB3:=hB2.trans (hw3.mono hB2.size)
  have hR3:=za hR2 hw3 hY2
  have ht3:=zg ht2 hw3 (by omega)
  have hY3:=Nat.lt_of_lt_of_le hY2 hw3.size
  have hB23:=hw3
  have hY2':=hY2
  clear hB2 hR2 ht2 hY2 cm hw3
  have ct3:=ct w3 (h.below hB3) (hG.below hB3)
  clear ct
  go_upto_region 6 with fail
  try simp only[Act.put]
  refine wp_region_list ?_
  refine wpList_step fun K hK=>?_
  go_simp
  refine hK _ _ ?_
  clear hK K
  refine wpList_step fun K hK=>?_
  go_simp
  refine hK _ _ ?_
  clear hK K
  refine wpList_load_mid rfl 81 _ rfl _ _ rfl q _ hR3 underlying81 rfl hi0' ?_
  go_wp2_with fail
  refine ct3.mono ?_
  rintro e w4 ⟨rfl,hw4⟩
  clear ct3
  have hB4:=hB3.trans (hw4.mono hB3.size)
  have hR4:=za hR3 hw4 hY3
  have ht4:=zg ht3 hw4 (by omega)
  have hY4:=Nat.lt_of_lt_of_le hY3 hw4.size
  have hT4:=zg hT2 (hB23.trans (hw4.mono hB23.size)) hY2'
  clear hB3 hR3 ht3 hY3 hw4 hT2 hB23 hY2'
  have F:=zq w4 (Array.replicate 16 (.int .u8 0)) 23 r (by simpa using hrl.out)
  have hN4:(w4.alloc (.cells (Array.replicate 16 (.int .u8 0)) 23)).there w4.heap.size 0 r.toArray.size:=by
    have:=zE w4 (Array.replicate 16 (.int .u8 0)) 23
    have e:r.toArray.size=16:=by have:=hrl.out;simpa using this
    rw[e];exact this
  go_upto_region 7 with(refine wpList_store_mid (op:=⟨none,.store 23 (.tmp 13) (.tmp 34),_,_,_,none⟩) rfl 23 _ _ rfl _ _ r.toArray rfl rfl hN4 hir hor ?_)
  go_name_world w5 hw5
  rw[show(w4.alloc (.cells (Array.replicate 16 (.int .u8 0)) 23)).setCells w4.heap.size 0 r=w5 from hw5]at F
  clear hw5 hN4
  obtain⟨hR5t,hF5,hz5,_⟩:=F
  have hB5:=hB4.trans (hF5.mono hB4.size)
  have hR5:=za hR4 hF5 hY4
  have ht5:=zg ht4 hF5 (by omega)
  have hT5:=zg hT4 hF5 hY4
  obtain⟨Z,hZ⟩:∃Z,Hid (w4.heap.size=Z):=⟨_,hide rfl⟩
  rw[hZ.out]at hR5t hY4 hz5 ⊢
  clear hB4 hR4 ht4 hF5 hT4
  try simp only[Act.put]
  have hR6:=hput w5 Y hR5 hT5
  have er16:r.toArray.size=16:=by have:=hrl.out;simpa using this
  have hT6:w5.there Y 3 r.toArray.size:=by have:=zL hT5 3 16 (by omega);rw[er16];simpa using this
  clear er16
  have hB6:Below w.heap.size w (w5.setCells Y 3 r):=zi (by rw[hX.out];omega) _ 3 w5 hB5
  have ht6:(w5.setCells Y 3 r).there X 0 19:=World.there_setCells ht5 _ _ _
  go_upto_region 9 with fail
  try simp only[Act.put]
  refine wp_region_list ?_
  refine wpList_load_mid rfl 23 _ rfl _ _ rfl r _ hR5t underlying23 rfl hir' ?_
  refine wpList_step fun K hK=>?_
  go_simp
  refine hK _ _ ?_
  clear hK K
  refine wpList_store_mid rfl 23 _ _ rfl _ _ r.toArray rfl rfl hT6 hir hor ?_
  obtain⟨w6,hw6⟩:∃w6,w5.setCells Y 3 r=w6:=⟨_,rfl⟩
  rw[show w5.setCells Y 3 r.toArray.toList=w6 from hw6]
  rw[hw6]at hR6 hB6 ht6
  clear hw6 hR5t hR5 hT5 ht5 hB5 hT6
  go_upto_region 10 with fail
  try simp only[Act.put]
  refine wp_region_list ?_
  refine wpList_load_mid rfl 81 _ rfl _ _ rfl Q _ hR6 underlying81 rfl hiR' ?_
  rw[←hRl'.out]at ht6
  have hrs:=run_loadVar_mid (P:=prog) (w6.setCells X 0 Q) X 0 81 Q _ (World.rangeAt_setCells_same w6 X 0 Q (by have:=ht6;simpa using this)) underlying81 rfl hiR'
  have hBl:Below w.heap.size w (w6.setCells X 0 Q):=zi (by rw[hX.out];exact Nat.le_refl _) _ 0 w6 hB6
  refine wpList_store_mid rfl 81 _ _ rfl _ _ Q.toArray rfl rfl ht6 hiR hoR ?_
  go_wp2_with fail
  exact bodyPost_ret (v:=.tuple #[.agg Q.toArray,.int .i64 0]) (by simp[results,results24,asAddr,hrs]) rfl ⟨rfl,hBl⟩
end Go.Proofs.YtcbpbkefggekmaaGreatDoor.Rk
