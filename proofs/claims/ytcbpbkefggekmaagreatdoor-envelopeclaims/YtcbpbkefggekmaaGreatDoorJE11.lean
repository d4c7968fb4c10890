/- requests: the tag, and the law's keys; request.Make: contracts; claims of batches, of certs; claims of certs, of messages; the tags of a message, but for its ne -/
import Derived.Test.YtcbpbkefggekmaaGreatDoorJE0
import Derived.Test.YtcbpbkefggekmaaGreatDoorJE5
import Derived.Test.YtcbpbkefggekmaaGreatDoorJE8
import Derived.Test.YtcbpbkefggekmaaGreatDoorJE10
set_option maxHeartbeats 2000000
set_option maxRecDepth 100000
open Go.Proofs.Tryz
namespace Go.Proofs.YtcbpbkefggekmaaGreatDoor.Rk
open Qs
open Go.RowKit
open Sha Tal
theorem lit16:(#[.int .u8 0,.int .u8 0,.int .u8 0,.int .u8 0,.int .u8 0,.int .u8 0,.int .u8 0,.int .u8 0,.int .u8 0,.int .u8 0,.int .u8 0,.int .u8 0,.int .u8 0,.int .u8 0,.int .u8 0,.int .u8 0]:Array Value)=(v8 zeros16).toArray:=by rfl
def tagV (ds:List (List Int)) (N c n:Int) (s:ByteArray):List Int ×Int:=
 if N<0∨64<N∨(ds.length:Int) - N≤c then(zeros16,2)else signOf ds (N+c) (strOf (bodyL c n s))
theorem zb9 (w:World) (q z:List Value):Below w.heap.size w ((w.alloc (.cells q.toArray 81)).alloc (.cells z.toArray 23))∧
  ((w.alloc (.cells q.toArray 81)).alloc (.cells z.toArray 23)).rangeAt w.heap.size 0 q∧((w.alloc (.cells q.toArray 81)).alloc (.cells z.toArray 23)).there (w.heap.size+1) 0 z.length∧
  w.heap.size+1<((w.alloc (.cells q.toArray 81)).alloc (.cells z.toArray 23)).heap.size:=by
 have b1:Below w.heap.size w (w.alloc (.cells q.toArray 81)):=(Below.refl _ _).alloc (Nat.le_refl _) _
 have b2:Below (w.alloc (.cells q.toArray 81)).heap.size (w.alloc (.cells q.toArray 81)) ((w.alloc (.cells q.toArray 81)).alloc (.cells z.toArray 23)):=(Below.refl _ _).alloc (Nat.le_refl _) _
 refine⟨b1.trans (b2.mono b1.size),zd (zy w q.toArray 81) b2 (by simp),?_,by simp⟩
 have:=zK (w.alloc (.cells q.toArray 81)) z.toArray 23
 simpa using this
theorem zhq (p:Option Addr) (ds:List (List Int)) (N c n:Int) (s:ByteArray) (t:List Int) (w:World) (h:KeysAt w p ds) (hN:N<0):
   Calls prog 62 #[.pointer p,.int .i64 N,.agg (reqL c n s t).toArray] w fun e w'=>e=.returned (.tuple #[.agg (v8 zeros16).toArray,.int .i64 2])∧Below w.heap.size w w':=by
  obtain⟨zs,hzs⟩:∃zs,Hid (v8 zeros16=zs):=⟨_,hide rfl⟩
  have hqc:=fun w' b=>@zbo w' b c n s t
  obtain⟨q,hq⟩:∃q,Hid (reqL c n s t=q):=⟨_,hide rfl⟩
  obtain⟨hB,hR,hT,hz⟩:=zb9 w q zs
  have hlit:=lit16
  have hi:(prog.info? 23).map (·.size)=some (v8 zeros16).toArray.size:=info16 zeros16 rfl
  have ho:=all_oneCell_toArray (zI zeros16)
  have hl:(v8 zeros16).length=16:=rfl
  have hi':(prog.info? 23).map (·.size)=some (v8 zeros16).length:=by rw[hl];exact iszT
  rw[hzs.out]at hlit hi ho hl hi'
  have HL:Hid (zs.length=16):=hl
  clear hl
  rw[hzs.out]
  simp only[hq.out]at hqc
  rw[hq.out]
  go_enter func62,ntmps62
  go_wp2_with fail
  go_name_world w2 hw2
  rw[hw2]at hB hR hT hz
  clear hw2
  have hB4:=hB.drew
  have hR4:w2.drew.rangeAt w.heap.size 0 q:=(World.rangeAt_drew _ _ _ _).2 hR
  have hT4:w2.drew.there (w.heap.size+1) 0 zs.toArray.size:=(World.there_drew _ _ _ _).2 hT
  have hz4:w.heap.size+1<w2.drew.heap.size:=hz
  have h4:=h.below hB4
  clear hB hR hT hz h
  obtain⟨X,hX⟩:∃X,Hid (w.heap.size=X):=⟨_,hide rfl⟩
  rw[hX.out]at hR4 hT4 hz4 ⊢
  obtain⟨w5,hw5⟩:∃w5,w2.drew=w5:=⟨_,rfl⟩
  rw[hw5]at hB4 hR4 hT4 hz4 h4
  have c0:∀w',Below w5.heap.size w5 w'→w'.cell? ⟨X,0,none⟩=some (.int .i64 c):=fun w' hw'=>(hqc w' X (zd hR4 hw' (by omega))).1
  refine zG (S:=(Below w5.heap.size w5)) 15 rfl (by kernel_rfl) ?_
  rw[hw5]
  clear hw5
  have hS:(Below w5.heap.size w5) w5:=Below.refl _ _
  refine hs_t 0 8 (?_) rfl (by kernel_rfl) (by kernel_rfl) (by kernel_rfl) (by rfl) ?_ hS rfl ?_
  rotate_left
  · intro w' hw
    go_simp
    try with_reducible rfl
  simp only[nz]
  refine hs_t 1 9 (.bool true) rfl (by kernel_rfl) (by kernel_rfl) (by kernel_rfl) (by rfl) (fun w' hw=>by go_simp) hS rfl ?_
  simp only[nz]
  refine hs_t 2 10 (?_) rfl (by kernel_rfl) (by kernel_rfl) (by kernel_rfl) (by rfl) ?_ hS rfl ?_
  rotate_left
  · intro w' hw
    go_simp
    try with_reducible rfl
  simp only[nz]
  refine zQ (i:=3) (d:=some 11) rfl (by kernel_rfl) (by kernel_rfl) (by kernel_rfl) (by rfl) hS rfl ?_
  simp only[nz]
  refine zQ (i:=4) (d:=some 12) rfl (by kernel_rfl) (by kernel_rfl) (by kernel_rfl) (by rfl) hS rfl ?_
  simp only[nz]
  refine hs_t 5 13 (?_) rfl (by kernel_rfl) (by kernel_rfl) (by kernel_rfl) (by rfl) ?_ hS rfl ?_
  rotate_left
  · intro w' hw
    go_simp
    try with_reducible rfl
  simp only[nz]
  refine hs_t 6 14 (?_) rfl (by kernel_rfl) (by kernel_rfl) (by kernel_rfl) (by rfl) ?_ hS rfl ?_
  rotate_left
  · intro w' hw
    go_simp
    try with_reducible rfl
  simp only[nz]
  refine zQ (i:=7) (d:=some 15) rfl (by kernel_rfl) (by kernel_rfl) (by kernel_rfl) (by rfl) hS rfl ?_
  simp only[nz]
  refine zQ (i:=8) (d:=some 16) rfl (by kernel_rfl) (by kernel_rfl) (by kernel_rfl) (by rfl) hS rfl ?_
  simp only[nz]
  refine zQ (i:=9) (d:=some 17) rfl (by kernel_rfl) (by kernel_rfl) (by kernel_rfl) (by rfl) hS rfl ?_
  simp only[nz]
  refine zQ (i:=10) (d:=some 18) rfl (by kernel_rfl) (by kernel_rfl) (by kernel_rfl) (by rfl) hS rfl ?_
  simp only[nz]
  refine zQ (i:=11) (d:=some 19) rfl (by kernel_rfl) (by kernel_rfl) (by kernel_rfl) (by rfl) hS rfl ?_
  simp only[nz]
  refine zQ (i:=12) (d:=some 20) rfl (by kernel_rfl) (by kernel_rfl) (by kernel_rfl) (by rfl) hS rfl ?_
  simp only[nz]
  refine zQ (i:=13) (d:=some 21) rfl (by kernel_rfl) (by kernel_rfl) (by kernel_rfl) (by rfl) hS rfl ?_
  simp only[nz]
  refine hs_t 14 22 (?_) rfl (by kernel_rfl) (by kernel_rfl) (by kernel_rfl) (by rfl) ?_ hS rfl ?_
  rotate_left
  · intro w' hw
    go_simp
    try with_reducible rfl
  simp only[nz]
  refine zE (by kernel_rfl) ?_
  clear c0 hR4 h4 hqc
  have hrs:=run_loadVar_mid (P:=prog) (w5.setCells (X+1) 0 zs) (X+1) 0 23 zs _ (World.rangeAt_setCells_same w5 (X+1) 0 zs (by have:=hT4;simpa using this)) underlying23 rfl hi'
  have hBl:Below w.heap.size w (w5.setCells (X+1) 0 zs):=zi (by rw[hX.out];omega) _ 0 w5 hB4
  go_wp2_with (refine wpList_store_mid rfl 23 _ _ rfl _ _ zs.toArray rfl rfl hT4 hi ho ?_)
  exact bodyPost_ret (v:=.tuple #[.agg zs.toArray,.int .i64 2]) (by simp[results,results62,asAddr,hrs]) rfl ⟨rfl,hBl⟩
theorem zhp (p:Option Addr) (ds:List (List Int)) (N c n:Int) (s:ByteArray) (t:List Int) (w:World) (h:KeysAt w p ds) (hN:¬N<0) (hN2:64<N):
   Calls prog 62 #[.pointer p,.int .i64 N,.agg (reqL c n s t).toArray] w fun e w'=>e=.returned (.tuple #[.agg (v8 zeros16).toArray,.int .i64 2])∧Below w.heap.size w w':=by
  obtain⟨zs,hzs⟩:∃zs,Hid (v8 zeros16=zs):=⟨_,hide rfl⟩
  have hqc:=fun w' b=>@zbo w' b c n s t
  obtain⟨q,hq⟩:∃q,Hid (reqL c n s t=q):=⟨_,hide rfl⟩
  obtain⟨hB,hR,hT,hz⟩:=zb9 w q zs
  have hlit:=lit16
  have hi:(prog.info? 23).map (·.size)=some (v8 zeros16).toArray.size:=info16 zeros16 rfl
  have ho:=all_oneCell_toArray (zI zeros16)
  have hl:(v8 zeros16).length=16:=rfl
  have hi':(prog.info? 23).map (·.size)=some (v8 zeros16).length:=by rw[hl];exact iszT
  rw[hzs.out]at hlit hi ho hl hi'
  have HL:Hid (zs.length=16):=hl
  clear hl
  rw[hzs.out]
  simp only[hq.out]at hqc
  rw[hq.out]
  go_enter func62,ntmps62
  go_wp2_with fail
  go_name_world w2 hw2
  rw[hw2]at hB hR hT hz
  clear hw2
  have hB4:=hB.drew
  have hR4:w2.drew.rangeAt w.heap.size 0 q:=(World.rangeAt_drew _ _ _ _).2 hR
  have hT4:w2.drew.there (w.heap.size+1) 0 zs.toArray.size:=(World.there_drew _ _ _ _).2 hT
  have hz4:w.heap.size+1<w2.drew.heap.size:=hz
  have h4:=h.below hB4
  clear hB hR hT hz h
  obtain⟨X,hX⟩:∃X,Hid (w.heap.size=X):=⟨_,hide rfl⟩
  rw[hX.out]at hR4 hT4 hz4 ⊢
  obtain⟨w5,hw5⟩:∃w5,w2.drew=w5:=⟨_,rfl⟩
  rw[hw5]at hB4 hR4 hT4 hz4 h4
  have c0:∀w',Below w5.heap.size w5 w'→w'.cell? ⟨X,0,none⟩=some (.int .i64 c):=fun w' hw'=>(hqc w' X (zd hR4 hw' (by omega))).1
  refine zG (S:=(Below w5.heap.size w5)) 15 rfl (by kernel_rfl) ?_
  rw[hw5]
  clear hw5
  have hS:(Below w5.heap.size w5) w5:=Below.refl _ _
  refine hs_t 0 8 (?_) rfl (by kernel_rfl) (by kernel_rfl) (by kernel_rfl) (by rfl) ?_ hS rfl ?_
  rotate_left
  · intro w' hw
    go_simp
    try with_reducible rfl
  simp only[nz]
  refine hs_t 1 9 (.bool false) rfl (by kernel_rfl) (by kernel_rfl) (by kernel_rfl) (by rfl) (fun w' hw=>by go_simp) hS rfl ?_
  simp only[nz]
  refine hs_t 2 10 (?_) rfl (by kernel_rfl) (by kernel_rfl) (by kernel_rfl) (by rfl) ?_ hS rfl ?_
  rotate_left
  · intro w' hw
    go_simp
    try with_reducible rfl
  simp only[nz]
  refine hs_t 3 11 (?_) rfl (by kernel_rfl) (by kernel_rfl) (by kernel_rfl) (by rfl) ?_ hS rfl ?_
  rotate_left
  · intro w' hw
    go_simp
    try with_reducible rfl
  simp only[nz]
  refine hs_t 4 12 (.bool true) rfl (by kernel_rfl) (by kernel_rfl) (by kernel_rfl) (by rfl) (fun w' hw=>by go_simp) hS rfl ?_
  simp only[nz]
  refine hs_t 5 13 (?_) rfl (by kernel_rfl) (by kernel_rfl) (by kernel_rfl) (by rfl) ?_ hS rfl ?_
  rotate_left
  · intro w' hw
    go_simp
    try with_reducible rfl
  simp only[nz]
  refine hs_t 6 14 (?_) rfl (by kernel_rfl) (by kernel_rfl) (by kernel_rfl) (by rfl) ?_ hS rfl ?_
  rotate_left
  · intro w' hw
    go_simp
    try with_reducible rfl
  simp only[nz]
  refine zQ (i:=7) (d:=some 15) rfl (by kernel_rfl) (by kernel_rfl) (by kernel_rfl) (by rfl) hS rfl ?_
  simp only[nz]
  refine zQ (i:=8) (d:=some 16) rfl (by kernel_rfl) (by kernel_rfl) (by kernel_rfl) (by rfl) hS rfl ?_
  simp only[nz]
  refine zQ (i:=9) (d:=some 17) rfl (by kernel_rfl) (by kernel_rfl) (by kernel_rfl) (by rfl) hS rfl ?_
  simp only[nz]
  refine zQ (i:=10) (d:=some 18) rfl (by kernel_rfl) (by kernel_rfl) (by kernel_rfl) (by rfl) hS rfl ?_
  simp only[nz]
  refine zQ (i:=11) (d:=some 19) rfl (by kernel_rfl) (by kernel_rfl) (by kernel_rfl) (by rfl) hS rfl ?_
  simp only[nz]
  refine zQ (i:=12) (d:=some 20) rfl (by kernel_rfl) (by kernel_rfl) (by kernel_rfl) (by rfl) hS rfl ?_
  simp only[nz]
  refine zQ (i:=13) (d:=some 21) rfl (by kernel_rfl) (by kernel_rfl) (by kernel_rfl) (by rfl) hS rfl ?_
  simp only[nz]
  refine hs_t 14 22 (?_) rfl (by kernel_rfl) (by kernel_rfl) (by kernel_rfl) (by rfl) ?_ hS rfl ?_
  rotate_left
  · intro w' hw
    go_simp
    try with_reducible rfl
  simp only[nz]
  refine zE (by kernel_rfl) ?_
  clear c0 hR4 h4 hqc
  have hrs:=run_loadVar_mid (P:=prog) (w5.setCells (X+1) 0 zs) (X+1) 0 23 zs _ (World.rangeAt_setCells_same w5 (X+1) 0 zs (by have:=hT4;simpa using this)) underlying23 rfl hi'
  have hBl:Below w.heap.size w (w5.setCells (X+1) 0 zs):=zi (by rw[hX.out];omega) _ 0 w5 hB4
  go_wp2_with (refine wpList_store_mid rfl 23 _ _ rfl _ _ zs.toArray rfl rfl hT4 hi ho ?_)
  exact bodyPost_ret (v:=.tuple #[.agg zs.toArray,.int .i64 2]) (by simp[results,results62,asAddr,hrs]) rfl ⟨rfl,hBl⟩
theorem zho (p:Option Addr) (ds:List (List Int)) (N c n:Int) (s:ByteArray) (t:List Int) (w:World) (h:KeysAt w p ds) (hN:¬N<0) (hN2:¬64<N) (hc:(ds.length:Int) - N≤c):
   Calls prog 62 #[.pointer p,.int .i64 N,.agg (reqL c n s t).toArray] w fun e w'=>e=.returned (.tuple #[.agg (v8 zeros16).toArray,.int .i64 2])∧Below w.heap.size w w':=by
  obtain⟨zs,hzs⟩:∃zs,Hid (v8 zeros16=zs):=⟨_,hide rfl⟩
  have hqc:=fun w' b=>@zbo w' b c n s t
  obtain⟨q,hq⟩:∃q,Hid (reqL c n s t=q):=⟨_,hide rfl⟩
  obtain⟨hB,hR,hT,hz⟩:=zb9 w q zs
  have hlit:=lit16
  have hi:(prog.info? 23).map (·.size)=some (v8 zeros16).toArray.size:=info16 zeros16 rfl
  have ho:=all_oneCell_toArray (zI zeros16)
  have hl:(v8 zeros16).length=16:=rfl
  have hi':(prog.info? 23).map (·.size)=some (v8 zeros16).length:=by rw[hl];exact iszT
  rw[hzs.out]at hlit hi ho hl hi'
  have HL:Hid (zs.length=16):=hl
  clear hl
  have hdl:=h.len
  have hw64:IntKind.i64.wrap ((ds.length:Int) - N)=(ds.length:Int) - N:=by rw[IntKind.wrap_i64];omega
  rw[hzs.out]
  simp only[hq.out]at hqc
  rw[hq.out]
  go_enter func62,ntmps62
  go_wp2_with fail
  go_name_world w2 hw2
  rw[hw2]at hB hR hT hz
  clear hw2
  have hB4:=hB.drew
  have hR4:w2.drew.rangeAt w.heap.size 0 q:=(World.rangeAt_drew _ _ _ _).2 hR
  have hT4:w2.drew.there (w.heap.size+1) 0 zs.toArray.size:=(World.there_drew _ _ _ _).2 hT
  have hz4:w.heap.size+1<w2.drew.heap.size:=hz
  have h4:=h.below hB4
  clear hB hR hT hz h
  obtain⟨X,hX⟩:∃X,Hid (w.heap.size=X):=⟨_,hide rfl⟩
  rw[hX.out]at hR4 hT4 hz4 ⊢
  obtain⟨w5,hw5⟩:∃w5,w2.drew=w5:=⟨_,rfl⟩
  rw[hw5]at hB4 hR4 hT4 hz4 h4
  have c0:∀w',Below w5.heap.size w5 w'→w'.cell? ⟨X,0,none⟩=some (.int .i64 c):=fun w' hw'=>(hqc w' X (zd hR4 hw' (by omega))).1
  refine zG (S:=(Below w5.heap.size w5)) 15 rfl (by kernel_rfl) ?_
  rw[hw5]
  clear hw5
  have hS:(Below w5.heap.size w5) w5:=Below.refl _ _
  refine hs_t 0 8 (?_) rfl (by kernel_rfl) (by kernel_rfl) (by kernel_rfl) (by rfl) ?_ hS rfl ?_
  rotate_left
  · intro w' hw
    go_simp
    try with_reducible rfl
  simp only[nz]
  refine hs_t 1 9 (.bool false) rfl (by kernel_rfl) (by kernel_rfl) (by kernel_rfl) (by rfl) (fun w' hw=>by go_simp) hS rfl ?_
  simp only[nz]
  refine hs_t 2 10 (?_) rfl (by kernel_rfl) (by kernel_rfl) (by kernel_rfl) (by rfl) ?_ hS rfl ?_
  rotate_left
  · intro w' hw
    go_simp
    try with_reducible rfl
  simp only[nz]
  refine hs_t 3 11 (?_) rfl (by kernel_rfl) (by kernel_rfl) (by kernel_rfl) (by rfl) ?_ hS rfl ?_
  rotate_left
  · intro w' hw
    go_simp
    try with_reducible rfl
  simp only[nz]
  refine hs_t 4 12 (.bool false) rfl (by kernel_rfl) (by kernel_rfl) (by kernel_rfl) (by rfl) (fun w' hw=>by go_simp) hS rfl ?_
  simp only[nz]
  refine hs_t 5 13 (?_) rfl (by kernel_rfl) (by kernel_rfl) (by kernel_rfl) (by rfl) ?_ hS rfl ?_
  rotate_left
  · intro w' hw
    go_simp
    try with_reducible rfl
  simp only[nz]
  refine hs_t 6 14 (?_) rfl (by kernel_rfl) (by kernel_rfl) (by kernel_rfl) (by rfl) ?_ hS rfl ?_
  rotate_left
  · intro w' hw
    go_simp
    try with_reducible rfl
  simp only[nz]
  refine hs_t 7 15 (?_) rfl (by kernel_rfl) (by kernel_rfl) (by kernel_rfl) (by rfl) ?_ hS rfl ?_
  rotate_left
  · intro w' hw
    go_simp
    try with_reducible rfl
  simp only[nz]
  refine hs_t 8 16 (?_) rfl (by kernel_rfl) (by kernel_rfl) (by kernel_rfl) (by rfl) ?_ hS rfl ?_
  rotate_left
  · intro w' hw
    have hc:=c0 w' hw
    go_simp
    try with_reducible rfl
  simp only[nz]
  refine hs_t 9 17 (?_) rfl (by kernel_rfl) (by kernel_rfl) (by kernel_rfl) (by rfl) ?_ hS rfl ?_
  rotate_left
  · intro w' hw
    go_simp
    try with_reducible rfl
  simp only[nz]
  refine hs_t 11 19 (?_) rfl (by kernel_rfl) (by kernel_rfl) (by kernel_rfl) (by rfl) ?_ hS rfl ?_
  rotate_left
  · intro w' hw
    go_simp
    try with_reducible rfl
  simp only[nz]
  have ck:=zcx p ds w5 h4
  refine zx (i:=10) (d:=some 18) rfl (by kernel_rfl) (by rfl) (by go_simp;first|done|exact⟨rfl,rfl⟩|with_reducible rfl) rfl ?_
  refine(ck).mono ?_
  rintro e' w9 ⟨rfl,hx9⟩
  have hS:(Below w5.heap.size w5) w9:=by rw[hx9];exact hS
  refine⟨_,rfl,hS,?_⟩
  simp only[nz]
  obtain rfl:=hx9.symm
  clear ck hx9
  refine hs_t 12 20 (.int .i64 ((ds.length:Int) - N)) rfl (by kernel_rfl) (by kernel_rfl) (by kernel_rfl) (by rfl) (fun w' hw=>by go_simp) hS rfl ?_
  simp only[nz]
  refine hs_t 13 21 (.bool true) rfl (by kernel_rfl) (by kernel_rfl) (by kernel_rfl) (by rfl) (fun w' hw=>by go_simp) hS rfl ?_
  simp only[nz]
  refine hs_t 14 22 (?_) rfl (by kernel_rfl) (by kernel_rfl) (by kernel_rfl) (by rfl) ?_ hS rfl ?_
  rotate_left
  · intro w' hw
    go_simp
    try with_reducible rfl
  simp only[nz]
  refine zE (by kernel_rfl) ?_
  clear c0 hR4 h4 hqc
  have hrs:=run_loadVar_mid (P:=prog) (w5.setCells (X+1) 0 zs) (X+1) 0 23 zs _ (World.rangeAt_setCells_same w5 (X+1) 0 zs (by have:=hT4;simpa using this)) underlying23 rfl hi'
  have hBl:Below w.heap.size w (w5.setCells (X+1) 0 zs):=zi (by rw[hX.out];omega) _ 0 w5 hB4
  go_wp2_with (refine wpList_store_mid rfl 23 _ _ rfl _ _ zs.toArray rfl rfl hT4 hi ho ?_)
  exact bodyPost_ret (v:=.tuple #[.agg zs.toArray,.int .i64 2]) (by simp[results,results62,asAddr,hrs]) rfl ⟨rfl,hBl⟩
theorem zhm (p:Option Addr) (ds:List (List Int)) (N c n:Int) (s:ByteArray) (t:List Int) (w:World) (h:KeysAt w p ds) (hG:Glob w) (ht:t.length=16) (hN:¬N<0) (hN2:¬64<N) (hc:¬(ds.length:Int) - N≤c) (hc0:-1000000≤c) (hn:n≤9223372036854775807) (hs:s.size≤100000) (hbsz:(strOf (bodyL c n s)).size≤100000):
   Calls prog 62 #[.pointer p,.int .i64 N,.agg (reqL c n s t).toArray] w fun e w'=>e=.returned (.tuple #[.agg (v8 (signOf ds (N+c) (strOf (bodyL c n s))).1).toArray,.int .i64 (signOf ds (N+c) (strOf (bodyL c n s))).2])∧Below w.heap.size w w':=by
  obtain⟨zs,hzs⟩:∃zs,Hid (v8 zeros16=zs):=⟨_,hide rfl⟩
  have hqc:=fun w' b=>@zbo w' b c n s t
  obtain⟨q,hq⟩:∃q,Hid (reqL c n s t=q):=⟨_,hide rfl⟩
  obtain⟨hB,hR,hT,hz⟩:=zb9 w q zs
  have hlit:=lit16
  have hi:(prog.info? 23).map (·.size)=some (v8 zeros16).toArray.size:=info16 zeros16 rfl
  have ho:=all_oneCell_toArray (zI zeros16)
  have hl:(v8 zeros16).length=16:=rfl
  have hi':(prog.info? 23).map (·.size)=some (v8 zeros16).length:=by rw[hl];exact iszT
  rw[hzs.out]at hlit hi ho hl hi'
  have HL:Hid (zs.length=16):=hl
  clear hl
  have hdl:=h.len
  have hw64:IntKind.i64.wrap ((ds.length:Int) - N)=(ds.length:Int) - N:=by rw[IntKind.wrap_i64];omega
  have hw65:IntKind.i64.wrap (N+c)=N+c:=by rw[IntKind.wrap_i64];omega
  have hiq:(prog.info? 81).map (·.size)=some (reqL c n s t).length:=by rw[zaI c n s t ht];exact iszR
  rw[hq.out]at hiq
  have cb:=fun w0=>zgj c n s t w0 ht (by omega) hn hs
  simp only[hq.out]at cb
  have hbs:=hbsz
  obtain⟨bd,hbd⟩:∃bd,Hid (strOf (bodyL c n s)=bd):=⟨_,hide rfl⟩
  simp only[hbd.out]at cb
  rw[hbd.out]at hbs
  rw[hbd.out]
  have cs:=fun w0 hG0 h0=>zfp p ds (N+c) bd w0 hG0 h0 (.inr hbs)
  have hrl0:=zcf ds (N+c) bd
  obtain⟨er,her⟩:∃er,Hid ((signOf ds (N+c) bd).2=er):=⟨_,hide rfl⟩
  obtain⟨r0,hr0⟩:∃r0,Hid ((signOf ds (N+c) bd).1=r0):=⟨_,hide rfl⟩
  simp only[her.out,hr0.out]at cs
  rw[hr0.out]at hrl0
  rw[her.out,hr0.out]
  have hir:=info16 r0 hrl0
  have hor:=all_oneCell_toArray (zI r0)
  have hir':(prog.info? 23).map (·.size)=some (v8 r0).length:=by rw[v8_length,hrl0];exact iszT
  have hrl:Hid ((v8 r0).length=16):=by show _=_;rw[v8_length,hrl0]
  obtain⟨r,hr⟩:∃r,Hid (v8 r0=r):=⟨_,hide rfl⟩
  simp only[hr.out]at cs
  rw[hr.out]at hir hor hir' hrl
  rw[hr.out]
  clear hrl0 hbsz hbs
  simp only[hq.out]at hqc
  rw[hq.out]
  go_enter func62,ntmps62
  go_wp2_with fail
  go_name_world w2 hw2
  rw[hw2]at hB hR hT hz
  clear hw2
  have hB4:=hB.drew
  have hR4:w2.drew.rangeAt w.heap.size 0 q:=(World.rangeAt_drew _ _ _ _).2 hR
  have hT4:w2.drew.there (w.heap.size+1) 0 zs.toArray.size:=(World.there_drew _ _ _ _).2 hT
  have hz4:w.heap.size+1<w2.drew.heap.size:=hz
  have h4:=h.below hB4
  clear hB hR hT hz h
  obtain⟨X,hX⟩:∃X,Hid (w.heap.size=X):=⟨_,hide rfl⟩
  rw[hX.out]at hR4 hT4 hz4 ⊢
  obtain⟨w5,hw5⟩:∃w5,w2.drew=w5:=⟨_,rfl⟩
  rw[hw5]at hB4 hR4 hT4 hz4 h4
  have c0:∀w',Below w5.heap.size w5 w'→w'.cell? ⟨X,0,none⟩=some (.int .i64 c):=fun w' hw'=>(hqc w' X (zd hR4 hw' (by omega))).1
  refine zG (S:=(Below w5.heap.size w5)) 15 rfl (by kernel_rfl) ?_
  rw[hw5]
  clear hw5
  have hS:(Below w5.heap.size w5) w5:=Below.refl _ _
  refine hs_t 0 8 (?_) rfl (by kernel_rfl) (by kernel_rfl) (by kernel_rfl) (by rfl) ?_ hS rfl ?_
  rotate_left
  · intro w' hw
    go_simp
    try with_reducible rfl
  simp only[nz]
  refine hs_t 1 9 (.bool false) rfl (by kernel_rfl) (by kernel_rfl) (by kernel_rfl) (by rfl) (fun w' hw=>by go_simp) hS rfl ?_
  simp only[nz]
  refine hs_t 2 10 (?_) rfl (by kernel_rfl) (by kernel_rfl) (by kernel_rfl) (by rfl) ?_ hS rfl ?_
  rotate_left
  · intro w' hw
    go_simp
    try with_reducible rfl
  simp only[nz]
  refine hs_t 3 11 (?_) rfl (by kernel_rfl) (by kernel_rfl) (by kernel_rfl) (by rfl) ?_ hS rfl ?_
  rotate_left
  · intro w' hw
    go_simp
    try with_reducible rfl
  simp only[nz]
  refine hs_t 4 12 (.bool false) rfl (by kernel_rfl) (by kernel_rfl) (by kernel_rfl) (by rfl) (fun w' hw=>by go_simp) hS rfl ?_
  simp only[nz]
  refine hs_t 5 13 (?_) rfl (by kernel_rfl) (by kernel_rfl) (by kernel_rfl) (by rfl) ?_ hS rfl ?_
  rotate_left
  · intro w' hw
    go_simp
    try with_reducible rfl
  simp only[nz]
  refine hs_t 6 14 (?_) rfl (by kernel_rfl) (by kernel_rfl) (by kernel_rfl) (by rfl) ?_ hS rfl ?_
  rotate_left
  · intro w' hw
    go_simp
    try with_reducible rfl
  simp only[nz]
  refine hs_t 7 15 (?_) rfl (by kernel_rfl) (by kernel_rfl) (by kernel_rfl) (by rfl) ?_ hS rfl ?_
  rotate_left
  · intro w' hw
    go_simp
    try with_reducible rfl
  simp only[nz]
  refine hs_t 8 16 (?_) rfl (by kernel_rfl) (by kernel_rfl) (by kernel_rfl) (by rfl) ?_ hS rfl ?_
  rotate_left
  · intro w' hw
    have hc:=c0 w' hw
    go_simp
    try with_reducible rfl
  simp only[nz]
  refine hs_t 9 17 (?_) rfl (by kernel_rfl) (by kernel_rfl) (by kernel_rfl) (by rfl) ?_ hS rfl ?_
  rotate_left
  · intro w' hw
    go_simp
    try with_reducible rfl
  simp only[nz]
  refine hs_t 11 19 (?_) rfl (by kernel_rfl) (by kernel_rfl) (by kernel_rfl) (by rfl) ?_ hS rfl ?_
  rotate_left
  · intro w' hw
    go_simp
    try with_reducible rfl
  simp only[nz]
  have ck:=zcx p ds w5 h4
  refine zx (i:=10) (d:=some 18) rfl (by kernel_rfl) (by rfl) (by go_simp;first|done|exact⟨rfl,rfl⟩|with_reducible rfl) rfl ?_
  refine(ck).mono ?_
  rintro e' w9 ⟨rfl,hx9⟩
  have hS:(Below w5.heap.size w5) w9:=by rw[hx9];exact hS
  refine⟨_,rfl,hS,?_⟩
  simp only[nz]
  obtain rfl:=hx9.symm
  clear ck hx9
  refine hs_t 12 20 (.int .i64 ((ds.length:Int) - N)) rfl (by kernel_rfl) (by kernel_rfl) (by kernel_rfl) (by rfl) (fun w' hw=>by go_simp) hS rfl ?_
  simp only[nz]
  refine hs_t 13 21 (.bool false) rfl (by kernel_rfl) (by kernel_rfl) (by kernel_rfl) (by rfl) (fun w' hw=>by go_simp) hS rfl ?_
  simp only[nz]
  refine hs_t 14 22 (?_) rfl (by kernel_rfl) (by kernel_rfl) (by kernel_rfl) (by rfl) ?_ hS rfl ?_
  rotate_left
  · intro w' hw
    go_simp
    try with_reducible rfl
  simp only[nz]
  refine zE (by kernel_rfl) ?_
  clear c0
  have hB6:=hB4.drew
  have hR6:w5.drew.rangeAt X 0 q:=(World.rangeAt_drew _ _ _ _).2 hR4
  have hT6:w5.drew.there (X+1) 0 zs.toArray.size:=(World.there_drew _ _ _ _).2 hT4
  have hz6:X+1<w5.drew.heap.size:=hz4
  have h6:=h4.below (Below.refl w5.heap.size w5).drew
  clear hB4 hR4 hT4 hz4 h4
  go_wp2_with fail
  obtain⟨w6,hw6⟩:∃w6,w5.drew=w6:=⟨_,rfl⟩
  rw[hw6]at hB6 hR6 hT6 hz6 h6
  refine zG (S:=(fun W:World=>W.rangeAt X 0 q∧Below w.heap.size w W)) 12 rfl (by kernel_rfl) ?_
  rw[hw6]
  clear hw6
  have hS:(fun W:World=>W.rangeAt X 0 q∧Below w.heap.size w W) w6:=⟨hR6,hB6⟩
  refine hs_t 0 24 (?_) rfl (by kernel_rfl) (by kernel_rfl) (by kernel_rfl) (by rfl) ?_ hS rfl ?_
  rotate_left
  · intro w' hw
    go_simp
    try with_reducible rfl
  simp only[nz]
  refine hs_t 1 25 (?_) rfl (by kernel_rfl) (by kernel_rfl) (by kernel_rfl) (by rfl) ?_ hS rfl ?_
  rotate_left
  · intro w' hw
    go_simp
    try with_reducible rfl
  simp only[nz]
  refine hs_t 2 26 (?_) rfl (by kernel_rfl) (by kernel_rfl) (by kernel_rfl) (by rfl) ?_ hS rfl ?_
  rotate_left
  · intro w' hw
    go_simp
    try with_reducible rfl
  simp only[nz]
  refine hs_t 3 27 (?_) rfl (by kernel_rfl) (by kernel_rfl) (by kernel_rfl) (by rfl) ?_ hS rfl ?_
  rotate_left
  · intro w' hw
    have hc:=(hqc w' X hw.1).1
    go_simp
    try with_reducible rfl
  simp only[nz]
  refine hs_t 4 28 (.int .i64 (N+c)) rfl (by kernel_rfl) (by kernel_rfl) (by kernel_rfl) (by rfl) (fun w' hw=>by go_simp) hS rfl ?_
  simp only[nz]
  refine hs_t 5 29 (.agg q.toArray) rfl (by kernel_rfl) (by kernel_rfl) (by kernel_rfl) (by rfl) (fun w' hw=>zdy rfl rfl (run_loadVar_mid (P:=prog) w' X 0 81 q _ hw.1 underlying81 rfl hiq)) hS rfl ?_
  simp only[nz]
  have cb6:=cb w6
  refine zx (i:=6) (d:=some 30) rfl (by kernel_rfl) (by rfl) (by go_simp;first|done|exact⟨rfl,rfl⟩|with_reducible rfl) rfl ?_
  refine(cb6).mono ?_
  rintro e' w7 ⟨rfl,hw7⟩
  have hS:(fun W:World=>W.rangeAt X 0 q∧Below w.heap.size w W) w7:=⟨zd hS.1 hw7 (by omega),hS.2.trans (hw7.mono hS.2.size)⟩
  refine⟨_,rfl,hS,?_⟩
  simp only[nz]
  have hT7:=zq hT6 hw7 hz6
  have hz7:=Nat.lt_of_lt_of_le hz6 hw7.size
  have cs7:=cs w7 (hG.below hS.2) (h6.below hw7)
  clear cb6 hw7 hT6 hz6 h6
  refine zx (i:=7) (d:=some 31) rfl (by kernel_rfl) (by rfl) (by go_simp;first|done|exact⟨rfl,rfl⟩|with_reducible rfl) rfl ?_
  refine(cs7).mono ?_
  rintro e' w8 ⟨rfl,hw8⟩
  have hS:(fun W:World=>W.rangeAt X 0 q∧Below w.heap.size w W) w8:=⟨zd hS.1 hw8 (by omega),hS.2.trans (hw8.mono hS.2.size)⟩
  refine⟨_,rfl,hS,?_⟩
  simp only[nz]
  have hT8:=zq hT7 hw8 hz7
  clear cs7 hw8 hT7 hz7
  refine hs_t 8 32 (?_) rfl (by kernel_rfl) (by kernel_rfl) (by kernel_rfl) (by rfl) ?_ hS rfl ?_
  rotate_left
  · intro w' hw
    go_simp
    try with_reducible rfl
  simp only[nz]
  refine hs_t 9 33 (?_) rfl (by kernel_rfl) (by kernel_rfl) (by kernel_rfl) (by rfl) ?_ hS rfl ?_
  rotate_left
  · intro w' hw
    go_simp
    try with_reducible rfl
  simp only[nz]
  have hTr:w8.there (X+1) 0 r.toArray.size:=by
    have e:r.toArray.size=zs.toArray.size:=by rw[List.size_toArray,List.size_toArray,hrl.out,HL.out]
    rw[e];exact hT8
  have hBl:Below w.heap.size w (w8.setCells (X+1) 0 r):=zi (by rw[hX.out];omega) _ 0 w8 hS.2
  have hrs:=run_loadVar_mid (P:=prog) (w8.setCells (X+1) 0 r) (X+1) 0 23 r _ (World.rangeAt_setCells_same w8 (X+1) 0 r (by have:=hTr;simpa using this)) underlying23 rfl hir'
  have hst:=run_storeVar_mid (P:=prog) w8 (X+1) 0 23 r.toArray hTr hir hor
  refine zU (i:=10) (w':=(w8.setCells (X+1) 0 r)) rfl (by kernel_rfl) (by rfl) (zbg rfl rfl rfl hst) rfl ⟨World.rangeAt_setCells_apart hS.1 (X+1) 0 r (.inl (by omega)),hBl⟩ ?_
  have hS:(fun W:World=>W.rangeAt X 0 q∧Below w.heap.size w W) (w8.setCells (X+1) 0 r):=⟨World.rangeAt_setCells_apart hS.1 (X+1) 0 r (.inl (by omega)),hBl⟩
  refine hs_t 11 7 (?_) rfl (by kernel_rfl) (by kernel_rfl) (by kernel_rfl) (by rfl) ?_ hS rfl ?_
  rotate_left
  · intro w' hw
    go_simp
    try with_reducible rfl
  simp only[nz]
  refine zE (by kernel_rfl) ?_
  go_wp2_with fail
  exact bodyPost_ret (v:=.tuple #[.agg r.toArray,.int .i64 er]) (by simp[results,results62,asAddr,hrs]) rfl ⟨rfl,hBl⟩
theorem zkF (c n:Int) (s:ByteArray) (hc:c≤9223372036854775807) (hn:n≤9223372036854775807) (hs:s.size≤90000):(bodyL c n s).length≤100000:=by
 have h1:=zab c (by omega)
 have h2:=zab n (by omega)
 have h3:=zab s.size (by omega)
 simp only[bodyL,textL,List.length_append,zad,List.length_cons,List.length_nil]
 omega
theorem zh5 {w:World} {b:Nat} {c n:Int} {s:ByteArray} {t u:List Int} (h:w.rangeAt b 0 (reqL c n s t)) (hu:u.length=16) (hT:w.there b 0 19):(w.setCells b 3 (v8 u)).rangeAt b 0 (reqL c n s u):=by
 have e:∀x,reqL c n s x=[.int .i64 c,.int .i64 n,.string s]++v8 x:=fun _=>rfl
 rw[e]at h ⊢
 refine zaU (World.rangeAt_setCells_apart (zP h) b 3 (v8 u) (.inr (.inl (by simp)))) ?_
 exact World.rangeAt_setCells_same w b 3 (v8 u) (zan hT 3 _ (by rw[v8_length,hu];omega))
theorem zhr (p:Option Addr) (ds:List (List Int)) (N c n:Int) (s:ByteArray) (t:List Int) (w:World) (h:KeysAt w p ds) (hG:Glob w) (ht:t.length=16) (hc0:0≤c) (hcm:c≤9223372036854775807) (hn:n≤9223372036854775807) (hs:s.size≤64):
   Calls prog 62 #[.pointer p,.int .i64 N,.agg (reqL c n s t).toArray] w fun e w'=>e=.returned (.tuple #[.agg (v8 (tagV ds N c n s).1).toArray,.int .i64 (tagV ds N c n s).2])∧Below w.heap.size w w':=by
  unfold tagV
  by_cases hN:N<0
  · rw[if_pos (.inl hN)];exact zhq p ds N c n s t w h hN
  · by_cases hN2:64<N
    · rw[if_pos (.inr (.inl hN2))];exact zhp p ds N c n s t w h hN hN2
    · by_cases hc:(ds.length:Int) - N≤c
      · rw[if_pos (.inr (.inr hc))];exact zho p ds N c n s t w h hN hN2 hc
      · rw[if_neg (by omega)]
        exact zhm p ds N c n s t w h hG ht hN hN2 hc (by omega) hn (by omega) (by rw[zbL];exact zkF c n s hcm hn (by omega))
theorem zhs (ds:List (List Int)) (N c n:Int) (s:ByteArray):(tagV ds N c n s).1.length=16:=by
 unfold tagV;split
 ·rfl
 ·exact zcf _ _ _
theorem zjg (p:Option Addr) (ds:List (List Int)) (N c n:Int) (s:ByteArray) (w:World) (h:KeysAt w p ds) (hG:Glob w) (hd:0<ds.length) (hm:0≤c∧c<8∧1≤n∧n≤1099511627776∧s.size≤64) (hne:(tagV ds N c n s).2=0):
   Calls prog 24 #[.pointer p,.int .i64 N,.int .i64 c,.int .i64 n,.string s] w fun e w'=>e=.returned (.tuple #[.agg (reqL c n s (tagV ds N c n s).1).toArray,.int .i64 0])∧Below w.heap.size w w':=by
  have ct:=fun w0 h0 hG0=>zhr p ds N c n s zeros16 w0 h0 hG0 rfl (by omega) (by omega) (by omega) (by omega)
  have hrl0:=zhs ds N c n s
  obtain⟨er,her⟩:∃er,Hid ((tagV ds N c n s).2=er):=⟨_,hide rfl⟩
  obtain⟨r0,hr0⟩:∃r0,Hid ((tagV ds N c n s).1=r0):=⟨_,hide rfl⟩
  simp only[her.out,hr0.out]at ct
  rw[hr0.out]at hrl0
  rw[her.out]at hne
  rw[hr0.out]
  subst hne
  have hir:=info16 r0 hrl0
  have hor:=all_oneCell_toArray (zI r0)
  have hir':(prog.info? 23).map (·.size)=some (v8 r0).length:=by rw[v8_length,hrl0];exact iszT
  have hput:=fun(w0:World) (b0:Nat) h1 h2=>@zh5 w0 b0 c n s zeros16 r0 h1 hrl0 h2
  have hiR:(prog.info? 81).map (·.size)=some (reqL c n s r0).toArray.size:=by rw[List.size_toArray,zaI c n s r0 hrl0];exact iszR
  have hoR:=all_oneCell_toArray (zbn c n s r0)
  have hRl:(reqL c n s r0).toArray.size=19:=by rw[List.size_toArray,zaI c n s r0 hrl0]
  have hrl:Hid ((v8 r0).length=16):=by show _=_;rw[v8_length,hrl0]
  obtain⟨r,hr⟩:∃r,Hid (v8 r0=r):=⟨_,hide rfl⟩
  obtain⟨Q,hQ⟩:∃Q,Hid (reqL c n s r0=Q):=⟨_,hide rfl⟩
  simp only[hr.out]at ct
  rw[hr.out]at hir hor hir' hrl
  rw[hQ.out]at hiR hoR hRl
  simp only[hr.out,hQ.out]at hput
  have hRl':=hide hRl
  have hiR':(prog.info? 81).map (·.size)=some Q.length:=by simpa using hiR
  clear hrl0 hRl
  rw[hQ.out]
  have hi0:(prog.info? 81).map (·.size)=some (reqL c n s zeros16).toArray.size:=by rw[List.size_toArray,zaI _ _ _ _ rfl];exact iszR
  have h1c:=all_oneCell_toArray (zbn c n s zeros16)
  have hB0:Below w.heap.size w (w.alloc (.cells #[.int .i64 0,.int .i64 0,.string ⟨#[]⟩,.int .u8 0,.int .u8 0,.int .u8 0,.int .u8 0,.int .u8 0,.int .u8 0,.int .u8 0,.int .u8 0,.int .u8 0,.int .u8 0,.int .u8 0,.int .u8 0,.int .u8 0,.int .u8 0,.int .u8 0,.int .u8 0] 81)):=(Below.refl _ _).alloc (Nat.le_refl _) _
  have ht0:(w.alloc (.cells #[.int .i64 0,.int .i64 0,.string ⟨#[]⟩,.int .u8 0,.int .u8 0,.int .u8 0,.int .u8 0,.int .u8 0,.int .u8 0,.int .u8 0,.int .u8 0,.int .u8 0,.int .u8 0,.int .u8 0,.int .u8 0,.int .u8 0,.int .u8 0,.int .u8 0,.int .u8 0] 81)).there w.heap.size 0 19:=zK w #[.int .i64 0,.int .i64 0,.string ⟨#[]⟩,.int .u8 0,.int .u8 0,.int .u8 0,.int .u8 0,.int .u8 0,.int .u8 0,.int .u8 0,.int .u8 0,.int .u8 0,.int .u8 0,.int .u8 0,.int .u8 0,.int .u8 0,.int .u8 0,.int .u8 0,.int .u8 0] 81
  have hz0:w.heap.size<(w.alloc (.cells #[.int .i64 0,.int .i64 0,.string ⟨#[]⟩,.int .u8 0,.int .u8 0,.int .u8 0,.int .u8 0,.int .u8 0,.int .u8 0,.int .u8 0,.int .u8 0,.int .u8 0,.int .u8 0,.int .u8 0,.int .u8 0,.int .u8 0,.int .u8 0,.int .u8 0,.int .u8 0] 81)).heap.size:=by simp
  go_enter func24,ntmps24
  go_upto_region 1 with fail
  go_name_world w1 hw1
  rw[show w.alloc (.cells #[.int .i64 0,.int .i64 0,.string ⟨#[]⟩,.int .u8 0,.int .u8 0,.int .u8 0,.int .u8 0,.int .u8 0,.int .u8 0,.int .u8 0,.int .u8 0,.int .u8 0,.int .u8 0,.int .u8 0,.int .u8 0,.int .u8 0,.int .u8 0,.int .u8 0,.int .u8 0] 81)=w1 from hw1]at ht0 hB0 hz0
  clear hw1
  have F:=zA w1 #[.int .i64 0,.int .i64 0,.string ⟨#[]⟩,.int .u8 0,.int .u8 0,.int .u8 0,.int .u8 0,.int .u8 0,.int .u8 0,.int .u8 0,.int .u8 0,.int .u8 0,.int .u8 0,.int .u8 0,.int .u8 0,.int .u8 0,.int .u8 0,.int .u8 0,.int .u8 0] 81 (reqL c n s zeros16) (by rw[zaI _ _ _ _ rfl];rfl)
  have hN1:(w1.alloc (.cells #[.int .i64 0,.int .i64 0,.string ⟨#[]⟩,.int .u8 0,.int .u8 0,.int .u8 0,.int .u8 0,.int .u8 0,.int .u8 0,.int .u8 0,.int .u8 0,.int .u8 0,.int .u8 0,.int .u8 0,.int .u8 0,.int .u8 0,.int .u8 0,.int .u8 0,.int .u8 0] 81)).there w1.heap.size 0 (reqL c n s zeros16).toArray.size:=zK w1 #[.int .i64 0,.int .i64 0,.string ⟨#[]⟩,.int .u8 0,.int .u8 0,.int .u8 0,.int .u8 0,.int .u8 0,.int .u8 0,.int .u8 0,.int .u8 0,.int .u8 0,.int .u8 0,.int .u8 0,.int .u8 0,.int .u8 0,.int .u8 0,.int .u8 0,.int .u8 0] 81
  go_upto_region 2 with(refine wpList_store_mid (op:=⟨none,.store 81 (.tmp 12) (.tmp 18),_,_,_,none⟩) rfl 81 _ _ rfl _ _ (reqL c n s zeros16).toArray rfl rfl hN1 hi0 h1c ?_)
  go_name_world w2 hw2
  rw[show(w1.alloc (.cells #[.int .i64 0,.int .i64 0,.string ⟨#[]⟩,.int .u8 0,.int .u8 0,.int .u8 0,.int .u8 0,.int .u8 0,.int .u8 0,.int .u8 0,.int .u8 0,.int .u8 0,.int .u8 0,.int .u8 0,.int .u8 0,.int .u8 0,.int .u8 0,.int .u8 0,.int .u8 0] 81)).setCells w1.heap.size 0 (reqL c n s zeros16)=w2 from hw2]at F
  clear hw2 hN1 h1c
  obtain⟨hR2,hF2,hz2,hT2⟩:=F
  have hT2:w2.there w1.heap.size 0 19:=hT2
  have hB2:=hB0.trans (hF2.mono hB0.size)
  have ht2:=zq ht0 hF2 hz0
  have hi0':(prog.info? 81).map (·.size)=some (reqL c n s zeros16).length:=by rw[zaI _ _ _ _ rfl];exact iszR
  clear hB0 ht0 hF2 hi0
  simp only[Act.put]
  generalize Value.agg #[Value.int IntKind.i64 c,Value.int IntKind.i64 n,Value.string s,Value.int IntKind.u8 0,Value.int IntKind.u8 0,Value.int IntKind.u8 0,Value.int IntKind.u8 0,Value.int IntKind.u8 0,Value.int IntKind.u8 0,Value.int IntKind.u8 0,Value.int IntKind.u8 0,Value.int IntKind.u8 0,Value.int IntKind.u8 0,Value.int IntKind.u8 0,Value.int IntKind.u8 0,Value.int IntKind.u8 0,Value.int IntKind.u8 0,Value.int IntKind.u8 0,Value.int IntKind.u8 0]=v18
  obtain⟨X,hX⟩:∃X,Hid (w.heap.size=X):=⟨_,hide rfl⟩
  obtain⟨Y,hY⟩:∃Y,Hid (w1.heap.size=Y):=⟨_,hide rfl⟩
  have hXY:X<Y:=by rw[←hX.out,←hY.out];exact hz0
  have hY2:Y<w2.heap.size:=by rw[hz2,hY.out];omega
  clear hz0 hz2
  rw[hX.out]at ht2 ⊢
  rw[hY.out]at hR2 hT2 ⊢
  have ck:=zcx p ds w2 (h.below hB2)
  have cm:=fun w0=>zjf c n 8 s zeros16 w0
  have hmb:decide (0≤c∧c<8∧1≤n∧n≤1099511627776∧s.size≤64)=true:=decide_eq_true hm
  simp only[hmb]at cm
  clear hmb
  obtain⟨q,hq⟩:∃q,Hid (reqL c n s zeros16=q):=⟨_,hide rfl⟩
  rw[hq.out]at hR2 hi0'
  simp only[hq.out]at cm ct
  simp only[hq.out]at hput
  have hd0:((ds.length:Int)==0)=false:=by simp;exact List.ne_nil_of_length_pos hd
  have hd1:¬(ds.length:Int)=0:=by omega
  have HD:=hide hd
  clear hd
  go_wp2_with fail
  refine ck.mono ?_
  rintro e w3 ⟨rfl,hx⟩
  obtain rfl:=hx.symm
  clear hx ck
  go_upto_region 4 with fail
  try simp only[Act.put]
  refine wp_region_list ?_
  refine wpList_load_mid rfl 81 _ rfl _ _ rfl q _ hR2 underlying81 rfl hi0' ?_
  go_wp2_with fail
  refine(cm w2).mono ?_
  rintro e w3 ⟨rfl,hw3⟩
  have hB3:=hB2.trans (hw3.mono hB2.size)
  have hR3:=zd hR2 hw3 hY2
  have ht3:=zq ht2 hw3 (by omega)
  have hY3:=Nat.lt_of_lt_of_le hY2 hw3.size
  have hB23:=hw3
  have hY2':=hY2
  clear hB2 hR2 ht2 hY2 cm hw3
  have ct3:=ct w3 (h.below hB3) (hG.below hB3)
  clear ct
  go_upto_region 6 with fail
  try simp only[Act.put]
  refine wp_region_list ?_
  refine wpList_step fun K hK=>?_
  go_simp
  refine hK _ _ ?_
  clear hK K
  refine wpList_step fun K hK=>?_
  go_simp
  refine hK _ _ ?_
  clear hK K
  refine wpList_load_mid rfl 81 _ rfl _ _ rfl q _ hR3 underlying81 rfl hi0' ?_
  go_wp2_with fail
  refine ct3.mono ?_
  rintro e w4 ⟨rfl,hw4⟩
  clear ct3
  have hB4:=hB3.trans (hw4.mono hB3.size)
  have hR4:=zd hR3 hw4 hY3
  have ht4:=zq ht3 hw4 (by omega)
  have hY4:=Nat.lt_of_lt_of_le hY3 hw4.size
  have hT4:=zq hT2 (hB23.trans (hw4.mono hB23.size)) hY2'
  clear hB3 hR3 ht3 hY3 hw4 hT2 hB23 hY2'
  have F:=zA w4 (Array.replicate 16 (.int .u8 0)) 23 r (by simpa using hrl.out)
  have hN4:(w4.alloc (.cells (Array.replicate 16 (.int .u8 0)) 23)).there w4.heap.size 0 r.toArray.size:=by
    have:=zK w4 (Array.replicate 16 (.int .u8 0)) 23
    have e:r.toArray.size=16:=by have:=hrl.out;simpa using this
    rw[e];exact this
  go_upto_region 7 with(refine wpList_store_mid (op:=⟨none,.store 23 (.tmp 13) (.tmp 34),_,_,_,none⟩) rfl 23 _ _ rfl _ _ r.toArray rfl rfl hN4 hir hor ?_)
  go_name_world w5 hw5
  rw[show(w4.alloc (.cells (Array.replicate 16 (.int .u8 0)) 23)).setCells w4.heap.size 0 r=w5 from hw5]at F
  clear hw5 hN4
  obtain⟨hR5t,hF5,hz5,_⟩:=F
  have hB5:=hB4.trans (hF5.mono hB4.size)
  have hR5:=zd hR4 hF5 hY4
  have ht5:=zq ht4 hF5 (by omega)
  have hT5:=zq hT4 hF5 hY4
  obtain⟨Z,hZ⟩:∃Z,Hid (w4.heap.size=Z):=⟨_,hide rfl⟩
  rw[hZ.out]at hR5t hY4 hz5 ⊢
  clear hB4 hR4 ht4 hF5 hT4
  try simp only[Act.put]
  have hR6:=hput w5 Y hR5 hT5
  have er16:r.toArray.size=16:=by have:=hrl.out;simpa using this
  have hT6:w5.there Y 3 r.toArray.size:=by have:=zan hT5 3 16 (by omega);rw[er16];simpa using this
  clear er16
  have hB6:Below w.heap.size w (w5.setCells Y 3 r):=zi (by rw[hX.out];omega) _ 3 w5 hB5
  have ht6:(w5.setCells Y 3 r).there X 0 19:=World.there_setCells ht5 _ _ _
  go_upto_region 9 with fail
  try simp only[Act.put]
  refine wp_region_list ?_
  refine wpList_load_mid rfl 23 _ rfl _ _ rfl r _ hR5t underlying23 rfl hir' ?_
  refine wpList_step fun K hK=>?_
  go_simp
  refine hK _ _ ?_
  clear hK K
  refine wpList_store_mid rfl 23 _ _ rfl _ _ r.toArray rfl rfl hT6 hir hor ?_
  obtain⟨w6,hw6⟩:∃w6,w5.setCells Y 3 r=w6:=⟨_,rfl⟩
  rw[show w5.setCells Y 3 r.toArray.toList=w6 from hw6]
  rw[hw6]at hR6 hB6 ht6
  clear hw6 hR5t hR5 hT5 ht5 hB5 hT6
  go_upto_region 10 with fail
  try simp only[Act.put]
  refine wp_region_list ?_
  refine wpList_load_mid rfl 81 _ rfl _ _ rfl Q _ hR6 underlying81 rfl hiR' ?_
  rw[←hRl'.out]at ht6
  have hrs:=run_loadVar_mid (P:=prog) (w6.setCells X 0 Q) X 0 81 Q _ (World.rangeAt_setCells_same w6 X 0 Q (by have:=ht6;simpa using this)) underlying81 rfl hiR'
  have hBl:Below w.heap.size w (w6.setCells X 0 Q):=zi (by rw[hX.out];exact Nat.le_refl _) _ 0 w6 hB6
  refine wpList_store_mid rfl 81 _ _ rfl _ _ Q.toArray rfl rfl ht6 hiR hoR ?_
  go_wp2_with fail
  exact bodyPost_ret (v:=.tuple #[.agg Q.toArray,.int .i64 0]) (by simp[results,results24,asAddr,hrs]) rfl ⟨rfl,hBl⟩
end Go.Proofs.YtcbpbkefggekmaaGreatDoor.Rk
namespace Go.Proofs.YtcbpbkefggekmaaGreatDoor
open Go.RowKit
open Sha Tal
set_option linter.unusedVariables false
set_option linter.unusedSimpArgs false
def batC (N:Int) (rs:List Rq):List Ev:=rs.map fun r=>⟨IntKind.i64.wrap (N+r.c),strOf (Rk.bodyL r.c r.n r.s),r.t⟩
def cerC (v:Vt) (ss:List Sg):List Ev:=ss.map fun s=>⟨s.n,optS v.may (voteL v),s.t⟩
def sgC (ss:List Sg):List Ev:=ss.map fun s=>⟨s.n,⟨#[]⟩,s.t⟩
def addV (O:Nat):Value:=.func (.func 52) #[] #[.pointer (some ⟨O,0,none⟩)]
theorem wrapIn (z:Int):-9223372036854775808≤IntKind.i64.wrap z∧IntKind.i64.wrap z≤9223372036854775807:=by rw[IntKind.wrap_i64];omega
theorem zcd (zs:List Int):(strOf zs).size=zs.length:=zbL zs
theorem zgo {N:Int} {r:Rq} (h:r.ok) (hs:r.s.size≤100000):Ev.ok ⟨IntKind.i64.wrap (N+r.c),strOf (Rk.bodyL r.c r.n r.s),r.t⟩:=
 ⟨h.tl,h.tb,by
  have:=Rk.zcI r.c r.n r.s h.ch h.nh hs
  show(strOf (Rk.bodyL r.c r.n r.s)).size≤maxLen
  rw[zcd]
  unfold maxLen
  omega,(wrapIn _).1,(wrapIn _).2⟩
theorem ziM {v:Vt} (h:v.ok):(optS v.may (voteL v)).size≤1000:=by
 unfold optS
 split
 ·rw[zcd];exact zd6 h
 ·decide
theorem zf2 {v:Vt} (hv:v.ok) {s:Sg} (h:s.ok):Ev.ok ⟨s.n,optS v.may (voteL v),s.t⟩:=
 ⟨h.tl,h.tb,Nat.le_trans (ziM hv) (by unfold maxLen;decide),h.nl,h.nh⟩
theorem zev {s:Sg} (h:s.ok):Ev.ok ⟨s.n,⟨#[]⟩,s.t⟩:=⟨h.tl,h.tb,Nat.zero_le _,h.nl,h.nh⟩
theorem zby {α β:Type} {f:α→β} {xs:List α} {k:Nat} (hk:k<xs.length):(xs.map f).take (k+1)=(xs.map f).take k++[f xs[k]]:=by
 rw[List.take_add_one]
 simp[List.getElem?_eq_getElem hk]
theorem Grow.range {w w':World} {O b o:Nat} {v v':Value} {cs:List Value} (g:Grow w w' O v v') (hb:b<w.heap.size) (hc:Clr O v b) (h:w.rangeAt b o cs):w'.rangeAt b o cs:=fun j u hu=>by
 rw[(zO (g.block b hb hc.1 hc.2)).1]
 exact h j u hu
structure CI (w wr:World) (O:Nat) (v vk:Value) (cs:List Ev):Prop where
 out:OutC wr O vk cs
 grow:Grow w wr O v vk
theorem CI.later {w wr w':World} {O:Nat} {v vk:Value} {cs:List Ev} (h:CI w wr O v vk cs) (hb:Below wr.heap.size wr w'):CI w w' O v vk cs:=⟨h.out.below hb,h.grow.trans (Grow.of hb _ _)⟩
theorem CI.add {w wr w':World} {O:Nat} {v vk v':Value} {cs ds:List Ev} (h:CI w wr O v vk cs) (ho:OutC w' O v' ds) (hg:Grow wr w' O vk v'):CI w w' O v v' ds:=⟨ho,h.grow.trans hg⟩
theorem zcE {w wr:World} {O:Nat} {v vk:Value} {cs:List Ev} (h:CI w wr O v vk cs) {b:Nat} (hb:wr.heap.size≤b):Clr O vk b:=⟨by have:=h.out.lt;omega,fun e=>by have:=(h.out.own.lt b e).2;omega⟩
theorem zgk (N:Int) (q:Bool) (x:Sl Rq) (O:Nat) (v:Value) (cs:List Ev) (w:World) (h:OutC w O v cs) (hx:x.At RqE w) (hc:x.Bk (Clr O v)) (hn:cs.length+x.xs.length≤1000000000) (hb:∀r∈x.xs,r.s.size≤100000):
  Calls prog 80 #[.int .i64 N,.agg #[.bool q,x.val],addV O] w fun en w'=>en=.returned (.tuple #[])∧∃v',OutC w' O v' (cs++batC N x.xs)∧Grow w w' O v v':=by
 obtain⟨z19,hzl,hzr⟩:∃z:List Value,z.length=19∧(∀w:World,(zeroValue 81).run prog w=.ok (.agg z.toArray) w):=⟨[.int .i64 0,.int .i64 0,.string ⟨#[]⟩]++v8 (List.replicate 16 0),rfl,fun w=>by kernel_rfl⟩
 have ca:=fun w0 vk ds e he h0 hl=>zcF O vk ds e w0 h0 he hl
 obtain⟨B1,r1,s1⟩:=zu w [.bool q,x.val] 39
 have pr:(w.alloc (.cells [Value.bool q,x.val].toArray 39)).cell? ⟨w.heap.size,1,none⟩=some x.val:=by have:=r1 1 _ rfl;rwa [Nat.zero_add]at this
 have HC0:CI w (w.alloc (.cells [Value.bool q,x.val].toArray 39)) O v v (cs++(batC N x.xs).take 0):=⟨by rw[List.take_zero,List.append_nil];exact h.below B1,Grow.of B1 _ _⟩
 have hx1:=hx
 obtain⟨xa,xc,xs⟩:=x
 obtain⟨n,hxn⟩:∃n,xs.length=n:=⟨_,rfl⟩
 have hval:(Sl.mk xa xc xs).val=.slice xa n xc:=by unfold Sl.val;rw[←hxn]
 rw[hval]at r1 pr HC0 B1 s1 ⊢
 clear hval r1
 have HN:=hide hxn
 have HXX:Hid (Sl.At RqE w ⟨xa,xc,xs⟩):=hide hx
 have HCC:=hide hc
 have HB:Hid (∀r∈xs,r.s.size≤100000):=hide hb
 have hn:cs.length+xs.length≤1000000000:=hn
 have HNN:=hide hn
 clear hx hx1 hc hb hn hxn h
 go_enter func80,ntmps80
 go_upto_region 1 with fail
 go_name_world W hW
 rw[show w.alloc (.cells #[.bool q,.slice xa n xc] 39)=W from hW]at B1 pr s1 HC0
 clear hW
 have HC1:=hide HC0
 clear HC0
 unfold addV
 go_wp2_with fail
 go_loopw [11] (fun iv wr=>∃(k:Nat) (vk:Value),k≤n∧iv=.int .i64 (k:Int)∧Hid (CI w wr O v vk (cs++(batC N xs).take k))) (fun iv _=>n - (intOf iv).toNat)
 case atStart=>exact⟨0,v,by omega,rfl,HC1⟩
 case round=>
  clear HC1 pr
  obtain⟨k,vk,hk,rfl,HK⟩:=hrel
  by_cases hlt:k<n
  ·have k1:(k:Int)<n:=by omega
   have hn9:n≤1000000000:=by have h1:=HNN.out;have h2:=HN.out;omega
   have hkx:k<xs.length:=by rw[HN.out];exact hlt
   obtain⟨b,off,hab,hbw,hre⟩:=(HXX.out.grow HK.out.grow HCC.out).elem k hkx
   have hab:xa=some ⟨b,off,none⟩:=hab
   have hre:wr.rangeAt b (off+k*19) (RqE.f xs[k]):=hre
   have okx:Rq.ok xs[k]:=HXX.out.2.1 _ (List.getElem_mem hkx)
   have hsz:=HB.out _ (List.getElem_mem hkx)
   have HT:Hid ((batC N xs).take (k+1)=(batC N xs).take k++[⟨IntKind.i64.wrap (N+(xs[k]).c),strOf (Rk.bodyL (xs[k]).c (xs[k]).n (xs[k]).s),(xs[k]).t⟩]):=hide (zby hkx)
   have HL:(cs++(batC N xs).take k).length≤1000000000:=by have:=HNN.out;simp only[List.length_append,List.length_take];omega
   obtain⟨g,hg⟩:∃g,xs[k]=g:=⟨_,rfl⟩
   rw[hg]at hre okx hsz HT
   clear hg
   have hok:=zgo (N:=N) okx hsz
   have ca:=fun w0 vk ds h0 hl=>ca w0 vk ds _ hok h0 hl
   have cb:=fun w0=>Rk.zgj g.c g.n g.s g.t w0 okx.tl okx.ch okx.nh hsz
   have cb:∀w0,Calls prog 101 #[.agg (RqE.f g).toArray] w0 fun e w'=>e=.returned (.string (strOf (Rk.bodyL g.c g.n g.s)))∧Below w0.heap.size w0 w':=cb
   have hu0:(RqE.f g)[0]? =some (.int .i64 g.c):=rfl
   have hut:RqE.f g=.int .i64 g.c::.int .i64 g.n::.string g.s::v8 g.t:=rfl
   have it16:(prog.info? 23).map (·.size)=some (v8 g.t).length:=by rw[v8_length,okx.tl];exact iszT
   have tgof:∀{w':World},w'.rangeAt wr.heap.size 0 (RqE.f g)→w'.rangeAt wr.heap.size 3 (v8 g.t):=fun {w'} hw j u hu=>by
    have:=hw (j+3) u (by rw[hut];exact hu)
    rw[show 0+(j+3)=3+j by omega]at this
    exact this
   have c0of:∀{w':World},w'.rangeAt wr.heap.size 0 (RqE.f g)→(RqE.f g)[0]? =some (.int .i64 g.c)→w'.cell? ⟨wr.heap.size,0,none⟩=some (.int .i64 g.c):=fun {w'} hw _=>by have:=hw 0 _ rfl;rwa [Nat.zero_add]at this
   have iu:(prog.info? 81).map (·.size)=some (RqE.f g).length:=by rw[RqE.len g okx];kernel_rfl
   have hul:(RqE.f g).length=19:=RqE.len g okx
   have hu1:=RqE.one g
   obtain⟨id,hid⟩:∃i,IntKind.i64.wrap (N+g.c)=i:=⟨_,rfl⟩
   rw[hid]at HT hok
   simp only[hid]at ca
   obtain⟨bd,hbd⟩:∃i,Hid (strOf (Rk.bodyL g.c g.n g.s)=i):=⟨_,hide rfl⟩
   rw[hbd.out]at HT hok
   simp only[hbd.out]at ca cb
   obtain⟨tg,htg⟩:∃t,Hid (g.t=t):=⟨_,hide rfl⟩
   rw[htg.out]at HT hok it16
   simp only[htg.out]at ca tgof
   clear hut okx hok hsz htg hbd
   generalize RqE.f g=u at *
   rw[hab]
   go_upto_region 3 with fail
   obtain⟨r5,hF,hF3,-⟩:=zA wr z19.toArray 81 u (by simp[hzl,hul])
   try simp only[Act.put]
   refine zb ?_
   refine pl_t 13 (?_) (by rfl) ?_ rfl ?_
   rotate_left
   ·go_simp
    try with_reducible rfl
   simp only[nz]
   refine pl_t 14 (.agg u.toArray) (by rfl) (zp rfl rfl hre underlying81 rfl iu) rfl ?_
   simp only[nz]
   refine zj (d:=some 7) (v:=.pointer (some ⟨wr.heap.size,0,none⟩)) (w':=wr.alloc (.cells z19.toArray 81)) (by rfl) (zr rfl (hzr _)) rfl ?_
   simp only[nz]
   refine zf (w':=(wr.alloc (.cells z19.toArray 81)).setCells wr.heap.size 0 u) (by rfl) (zn (cs:=u.toArray) rfl rfl rfl (zm _ _ _ (by simp[hzl,hul])) (by simpa using iu) (zo hu1)) rfl ?_
   refine za ?_
   have HC:=HK.out.later hF
   have HX:=zcE HK.out (Nat.le_refl _)
   clear HK
   obtain⟨X,hX⟩:∃X,wr.heap.size=X:=⟨_,rfl⟩
   simp only[hX]at r5 HC HX hF3 tgof c0of ⊢
   obtain⟨w5,hw5⟩:∃W,(wr.alloc (.cells z19.toArray 81)).setCells X 0 u=W:=⟨_,rfl⟩
   rw[hw5]at r5 HC hF3 ⊢
   have sX:X<w5.heap.size:=by omega
   clear hw5 hX hF hF3 hre hab
   go_upto_region 4 with fail
   have hdr:Below w5.heap.size w5 w5.drew:=(Below.refl _ _).drew
   have r5:=zd r5 hdr sX
   have HC:=HC.later hdr
   have sX:=Nat.lt_of_lt_of_le sX hdr.size
   refine zG (S:=fun W':World=>W'.rangeAt X 0 u) 10 rfl (by kernel_rfl) ?_
   obtain⟨w8,hw8⟩:∃W,w5.drew=W:=⟨_,rfl⟩
   rw[hw8]at r5 HC sX ⊢
   clear hdr hw8
   have hS:w8.rangeAt X 0 u:=r5
   refine hs_t 0 15 (?_) rfl (by kernel_rfl) (by kernel_rfl) (by kernel_rfl) (by rfl) ?_ hS rfl ?_
   rotate_left
   ·intro w' hw
    go_simp
    try with_reducible rfl
   simp only[nz]
   refine hs_t 1 16 (?_) rfl (by kernel_rfl) (by kernel_rfl) (by kernel_rfl) (by rfl) ?_ hS rfl ?_
   rotate_left
   ·intro w' hw
    go_simp
    try with_reducible rfl
   simp only[nz]
   refine hs_t 2 17 (?_) rfl (by kernel_rfl) (by kernel_rfl) (by kernel_rfl) (by rfl) ?_ hS rfl ?_
   rotate_left
   ·intro w' hw
    go_simp
    try with_reducible rfl
   simp only[nz]
   refine hs_t 3 18 (.int .i64 g.c) rfl (by kernel_rfl) (by kernel_rfl) (by kernel_rfl) (by rfl) (fun w' hw=>zg rfl rfl (c0of hw hu0) underlying3 rfl) hS rfl ?_
   simp only[nz]
   refine hs_t 4 19 (.int .i64 id) rfl (by kernel_rfl) (by kernel_rfl) (by kernel_rfl) (by rfl) (fun w' hw=>by go_simp<;>(try simp[hid])) hS rfl ?_
   simp only[nz]
   refine hs_t 5 20 (.agg u.toArray) rfl (by kernel_rfl) (by kernel_rfl) (by kernel_rfl) (by rfl) (fun w' hw=>zp rfl rfl hw underlying81 rfl iu) hS rfl ?_
   simp only[nz]
   refine hs_t 7 22 (?_) rfl (by kernel_rfl) (by kernel_rfl) (by kernel_rfl) (by rfl) ?_ hS rfl ?_
   rotate_left
   ·intro w' hw
    go_simp
    try with_reducible rfl
   simp only[nz]
   refine hs_t 8 23 (.agg (v8 tg).toArray) rfl (by kernel_rfl) (by kernel_rfl) (by kernel_rfl) (by rfl) (fun w' hw=>zp rfl rfl (tgof hw) underlying23 rfl it16) hS rfl ?_
   simp only[nz]
   refine zx (i:=6) (d:=some 21) rfl (by kernel_rfl) (by rfl) (by go_simp;first|done|exact⟨rfl,rfl⟩|with_reducible rfl) rfl ?_
   refine(cb w8).mono ?_
   rintro _ wb ⟨rfl,hbb⟩
   have hS:wb.rangeAt X 0 u:=zd hS hbb sX
   have HC:=HC.later hbb
   have sX:=Nat.lt_of_lt_of_le sX hbb.size
   refine⟨_,rfl,hS,?_⟩
   simp only[nz]
   refine zx (i:=9) (d:=some 24) rfl (by kernel_rfl) (by rfl) (by go_simp;first|done|exact⟨rfl,rfl⟩|with_reducible rfl) rfl ?_
   refine(ca wb vk (cs++(batC N xs).take k) HC.out HL).mono ?_
   rintro _ wc ⟨rfl,v',ho',hg'⟩
   have hS:wc.rangeAt X 0 u:=hg'.range sX HX hS
   refine⟨_,rfl,hS,?_⟩
   simp only[nz]
   refine zE (by kernel_rfl) ?_
   have HD:Hid (CI w wc O v v' (cs++(batC N xs).take (k+1))):=hide (by
    rw[HT.out,←List.append_assoc]
    exact HC.add ho' hg')
   clear HC ho' hg' hS HX r5 hbb cb ca tgof c0of HT iu it16 hu0 hu1 hul hzr hzl hid
   go_wp2_with fail
   go_roundw
   case rel=>exact⟨k+1,v',by omega,by go_num,HD⟩
   case measure=>simp[intOf];omega
  ·obtain rfl:k=n:=by omega
   have HE:Hid (OutC wr O vk (cs++batC N xs)∧Grow w wr O v vk):=hide (by
    have h1:=HK.out.out
    rw[List.take_of_length_le (by unfold batC;rw[List.length_map,HN.out];exact Nat.le_refl _)]at h1
    exact⟨h1,HK.out.grow⟩)
   clear HK ca hlt
   go_wp2_with fail
   go_end0
   exact⟨rfl,vk,HE.out⟩
theorem HdsAt.grow {w w':World} {O:Nat} {v v':Value} {x:Sl Hd} (h:HdsAt w x) (k:Grow w w' O v v') (hb:x.Bk (Clr O v)) (hb2:∀y∈x.xs,y.Bk (Clr O v)):HdsAt w' x:=
 ⟨h.1.grow k hb,fun y hy=>⟨(h.2 y hy).1.grow k (hb2 y hy).1,(h.2 y hy).2.grow k (hb2 y hy).2⟩⟩
def hdC (N:Int) (h:Hp):List Ev:=batC N h.rs++cerC h.vt h.sg
def heC (N:Int) (hs:List Hp):List Ev:=hs.flatMap (hdC N)
def ownC (N:Int) (m:Mp):List Ev:=batC N m.rs++cerC m.ct m.cs++heC N m.he++sgC m.sg
theorem zfz {N:Int} {hs:List Hp} {k:Nat} (hk:k<hs.length):heC N (hs.take (k+1))=heC N (hs.take k)++hdC N hs[k]:=by
 have e:hs.take (k+1)=hs.take k++[hs[k]]:=by rw[List.take_add_one,List.getElem?_eq_getElem hk];rfl
 unfold heC
 rw[e,List.flatMap_append]
 simp
theorem zfA (N:Int) (hs:List Hp) (k:Nat):(heC N (hs.take k)).length≤(heC N hs).length:=by
 have:heC N hs=heC N (hs.take k)++heC N (hs.drop k):=by
  unfold heC
  rw[←List.flatMap_append,List.take_append_drop]
 rw[this,List.length_append]
 omega
theorem zaH (N:Int) (rs:List Rq):(batC N rs).length=rs.length:=by simp[batC]
theorem zaN (v:Vt) (ss:List Sg):(cerC v ss).length=ss.length:=by simp[cerC]
theorem zbk (ss:List Sg):(sgC ss).length=ss.length:=by simp[sgC]
theorem zeroSg17 (w:World):(zeroValue 133).run prog w=.ok (.agg ([Value.int .i64 0]++v8 (List.replicate 16 0)).toArray) w:=zeroSgE w
theorem zf6 (vt:Vt) (x:Sl Sg) (O:Nat) (v:Value) (cs:List Ev) (w:World) (h:OutC w O v cs) (hvt:vt.ok) (hx:x.At SgE w) (hc:x.Bk (Clr O v)) (hn:cs.length+x.xs.length≤1000000000):
  Calls prog 81 #[.agg (certL vt x).toArray,addV O] w fun en w'=>en=.returned (.tuple #[])∧∃v',OutC w' O v' (cs++cerC vt x.xs)∧Grow w w' O v v':=by
 obtain⟨z17,hzl,hzr⟩:∃z:List Value,z.length=17∧(∀w:World,(zeroValue 133).run prog w=.ok (.agg z.toArray) w):=⟨_,rfl,zeroSg17⟩
 have ca:=fun w0 vk ds e he h0 hl=>zcF O vk ds e w0 h0 he hl
 have cv:=fun w0=>zg5 vt hvt w0
 have hvl:=hvt.len
 obtain⟨B1,r1,s1⟩:=zu w (certL vt x) 50
 have r1v:(w.alloc (.cells (certL vt x).toArray 50)).rangeAt w.heap.size 0 vt.cells:=zP r1
 have pr:(w.alloc (.cells (certL vt x).toArray 50)).cell? ⟨w.heap.size,36,none⟩=some x.val:=by
  have:=zZ r1 0 _ rfl
  simpa [hvl]using this
 have HC0:CI w (w.alloc (.cells (certL vt x).toArray 50)) O v v cs:=⟨h.below B1,Grow.of B1 _ _⟩
 have iv:(prog.info? 43).map (·.size)=some vt.cells.length:=by rw[hvl];kernel_rfl
 obtain⟨bv,hbv⟩:∃b,Hid (optS vt.may (voteL vt)=b):=⟨_,hide rfl⟩
 simp only[hbv.out]at cv
 obtain⟨xa,xc,xs⟩:=x
 obtain⟨n,hxn⟩:∃n,xs.length=n:=⟨_,rfl⟩
 have hval:(Sl.mk xa xc xs).val=.slice xa n xc:=by unfold Sl.val;rw[←hxn]
 have hn:cs.length+xs.length≤1000000000:=hn
 rw[hval]at pr
 obtain⟨q,hq⟩:∃q,Hid (certL vt ⟨xa,xc,xs⟩=q):=⟨_,hide rfl⟩
 rw[hq.out]at B1 pr s1 HC0 r1v ⊢
 obtain⟨vc,hvc⟩:∃q,Hid (vt.cells=q):=⟨_,hide rfl⟩
 rw[hvc.out]at iv r1v
 simp only[hvc.out]at cv
 clear hval r1 hvl hq hvc
 have HN:=hide hxn
 have HXX:Hid (Sl.At SgE w ⟨xa,xc,xs⟩):=hide hx
 have HCC:=hide hc
 have HNN:=hide hn
 have HVT:=hide hvt
 clear hx hc hn hxn h hvt
 go_enter func81,ntmps81
 go_upto_region 1 with fail
 go_name_world W hW
 rw[show w.alloc (.cells q.toArray 50)=W from hW]at B1 pr s1 HC0 r1v
 clear hW
 try simp only[Act.put]
 refine zb ?_
 refine pl_t 7 (?_) (by rfl) ?_ rfl ?_
 rotate_left
 ·go_simp
  try with_reducible rfl
 simp only[nz]
 refine pl_t 8 (.agg vc.toArray) (by rfl) (zp rfl rfl r1v underlying43 rfl iv) rfl ?_
 simp only[nz]
 refine ze (d:=some 9) (by rfl) (by go_simp;first|done|exact⟨rfl,rfl⟩|with_reducible rfl) rfl ?_
 refine(cv W).mono ?_
 rintro _ w1 ⟨rfl,hb1⟩
 refine⟨_,rfl,?_⟩
 simp only[nz]
 refine pl_t 4 (?_) (by rfl) ?_ rfl ?_
 rotate_left
 ·go_simp
  try with_reducible rfl
 simp only[nz]
 refine za ?_
 have pr:=(hb1.cell (p:=⟨w.heap.size,36,none⟩) s1).trans pr
 have HC1:=hide (HC0.later hb1)
 clear HC0 r1v cv iv hb1 B1
 go_upto_region 2 with fail
 try simp only[Act.put]
 refine zb ?_
 refine pl_t 10 (?_) (by rfl) ?_ rfl ?_
 rotate_left
 ·go_simp
  try with_reducible rfl
 simp only[nz]
 refine pl_t 11 (.slice xa n xc) (by rfl) (zg rfl rfl pr underlying48 rfl) rfl ?_
 simp only[nz]
 refine pl_t 12 (?_) (by rfl) ?_ rfl ?_
 rotate_left
 ·go_simp
  try with_reducible rfl
 simp only[nz]
 refine pl_t 13 (?_) (by rfl) ?_ rfl ?_
 rotate_left
 ·go_simp
  try with_reducible rfl
 simp only[nz]
 refine za ?_
 clear pr s1
 have HC1:Hid (CI w w1 O v v (cs++(cerC vt xs).take 0)):=hide (by rw[List.take_zero,List.append_nil];exact HC1.out)
 unfold addV
 go_wp2_with fail
 go_loopw [13] (fun iv wr=>∃(k:Nat) (vk:Value),k≤n∧iv=.int .i64 (k:Int)∧Hid (CI w wr O v vk (cs++(cerC vt xs).take k))) (fun iv _=>n - (intOf iv).toNat)
 case atStart=>exact⟨0,v,by omega,rfl,HC1⟩
 case round=>
  clear HC1
  obtain⟨k,vk,hk,rfl,HK⟩:=hrel
  by_cases hlt:k<n
  ·have k1:(k:Int)<n:=by omega
   have hn9:n≤1000000000:=by have h1:=HNN.out;have h2:=HN.out;omega
   have hkx:k<xs.length:=by rw[HN.out];exact hlt
   obtain⟨b,off,hab,hbw,hre⟩:=(HXX.out.grow HK.out.grow HCC.out).elem k hkx
   have hab:xa=some ⟨b,off,none⟩:=hab
   have hre:wr.rangeAt b (off+k*17) (SgE.f xs[k]):=hre
   have okx:Sg.ok xs[k]:=HXX.out.2.1 _ (List.getElem_mem hkx)
   have HT:Hid ((cerC vt xs).take (k+1)=(cerC vt xs).take k++[⟨(xs[k]).n,optS vt.may (voteL vt),(xs[k]).t⟩]):=hide (zby hkx)
   have HL:(cs++(cerC vt xs).take k).length≤1000000000:=by have:=HNN.out;simp only[List.length_append,List.length_take];omega
   obtain⟨g,hg⟩:∃g,xs[k]=g:=⟨_,rfl⟩
   rw[hg]at hre okx HT
   clear hg
   have hok:Ev.ok ⟨g.n,optS vt.may (voteL vt),g.t⟩:=zf2 HVT.out okx
   have ca:=fun w0 vk ds h0 hl=>ca w0 vk ds _ hok h0 hl
   have hut:SgE.f g=.int .i64 g.n::v8 g.t:=rfl
   have it16:(prog.info? 23).map (·.size)=some (v8 g.t).length:=by rw[v8_length,okx.tl];exact iszT
   have iu:(prog.info? 133).map (·.size)=some (SgE.f g).length:=by rw[SgE.len g okx];kernel_rfl
   have hul:(SgE.f g).length=17:=SgE.len g okx
   have hu1:=SgE.one g
   obtain⟨id,hid⟩:∃i,g.n=i:=⟨_,rfl⟩
   have hbd:=hbv
   obtain⟨tg,htg⟩:∃t,g.t=t:=⟨_,rfl⟩
   rw[hid,htg]at HT
   rw[hid]at hut
   rw[hbd.out]at HT
   rw[htg]at hut it16
   simp only[hid,hbd.out,htg]at ca
   clear hbd
   clear okx hok htg hid
   obtain⟨u,hu⟩:∃u,Hid (SgE.f g=u):=⟨_,hide rfl⟩
   rw[hu.out]at hre iu hul hu1 hut
   clear hu
   rw[hab]
   go_upto_region 4 with fail
   obtain⟨r5,hF,hF3,-⟩:=zA wr z17.toArray 133 u (by simp[hzl,hul])
   try simp only[Act.put]
   refine zb ?_
   refine pl_t 15 (?_) (by rfl) ?_ rfl ?_
   rotate_left
   ·go_simp
    try with_reducible rfl
   simp only[nz]
   refine pl_t 16 (.agg u.toArray) (by rfl) (zp rfl rfl hre underlying133 rfl iu) rfl ?_
   simp only[nz]
   refine zj (d:=some 6) (v:=.pointer (some ⟨wr.heap.size,0,none⟩)) (w':=wr.alloc (.cells z17.toArray 133)) (by rfl) (zr rfl (hzr _)) rfl ?_
   simp only[nz]
   refine zf (w':=(wr.alloc (.cells z17.toArray 133)).setCells wr.heap.size 0 u) (by rfl) (zn (cs:=u.toArray) rfl rfl rfl (zm _ _ _ (by simp[hzl,hul])) (by simpa using iu) (zo hu1)) rfl ?_
   refine za ?_
   have HC:=HK.out.later hF
   clear HK
   obtain⟨X,hX⟩:∃X,wr.heap.size=X:=⟨_,rfl⟩
   simp only[hX]at r5 HC hF3 ⊢
   obtain⟨w5,hw5⟩:∃W,(wr.alloc (.cells z17.toArray 133)).setCells X 0 u=W:=⟨_,rfl⟩
   rw[hw5]at r5 HC hF3 ⊢
   have sX:X<w5.heap.size:=by omega
   clear hw5 hX hF hF3 hre hab
   have c0:w5.cell? ⟨X,0,none⟩=some (.int .i64 id):=by simpa using r5 0 _ (by rw[hut];rfl)
   have ct:w5.rangeAt X 1 (v8 tg):=fun j y hy=>by
    have:=r5 (j+1) y (by rw[hut];exact hy)
    rw[show 0+(j+1)=1+j by omega]at this
    exact this
   clear r5
   go_upto_region 5 with fail
   try simp only[Act.put]
   refine zb ?_
   refine pl_t 17 (?_) (by rfl) ?_ rfl ?_
   rotate_left
   ·go_simp
    try with_reducible rfl
   simp only[nz]
   refine pl_t 18 (?_) (by rfl) ?_ rfl ?_
   rotate_left
   ·go_simp
    try with_reducible rfl
   simp only[nz]
   refine pl_t 19 (.int .i64 id) (by rfl) (zg rfl rfl c0 underlying3 rfl) rfl ?_
   simp only[nz]
   refine pl_t 20 (?_) (by rfl) ?_ rfl ?_
   rotate_left
   ·go_simp
    try with_reducible rfl
   simp only[nz]
   refine pl_t 21 (?_) (by rfl) ?_ rfl ?_
   rotate_left
   ·go_simp
    try with_reducible rfl
   simp only[nz]
   refine pl_t 22 (.agg (v8 tg).toArray) (by rfl) (zp rfl rfl ct underlying23 rfl it16) rfl ?_
   simp only[nz]
   refine ze (d:=some 23) (by rfl) (by go_simp;first|done|exact⟨rfl,rfl⟩|with_reducible rfl) rfl ?_
   refine(ca w5 vk (cs++(cerC vt xs).take k) HC.out HL).mono ?_
   rintro _ wc ⟨rfl,v',ho',hg'⟩
   refine⟨_,rfl,?_⟩
   simp only[nz]
   refine za ?_
   have HD:Hid (CI w wc O v v' (cs++(cerC vt xs).take (k+1))):=hide (by
    rw[HT.out,←List.append_assoc]
    exact HC.add ho' hg')
   clear HC ho' hg' c0 ct ca HT iu it16 hul hu1 hut hzr hzl
   go_wp2_with fail
   go_roundw
   case rel=>exact⟨k+1,v',by omega,by go_num,HD⟩
   case measure=>simp[intOf];omega
  ·obtain rfl:k=n:=by omega
   have HE:Hid (OutC wr O vk (cs++cerC vt xs)∧Grow w wr O v vk):=hide (by
    have h1:=HK.out.out
    rw[List.take_of_length_le (by rw[zaN,HN.out];exact Nat.le_refl _)]at h1
    exact⟨h1,HK.out.grow⟩)
   clear HK ca hlt
   go_wp2_with fail
   go_end0
   exact⟨rfl,vk,HE.out⟩
theorem zcn {w:World} {b o:Nat} {x y:Value} (h0:w.cell? ⟨b,o,none⟩=some x) (h1:w.cell? ⟨b,o+1,none⟩=some y):w.rangeAt b o [x,y]:=fun j u hu=>by
 rcases j with _|_|j
 ·simp at hu;subst hu;exact h0
 ·simp at hu;subst hu;exact h1
 ·simp at hu
theorem iszBaV (q:Bool) (x:Value):(prog.info? 39).map (·.size)=some [Value.bool q,x].length:=by kernel_rfl
theorem zeroHd39:∃z:List Value,z.length=39∧(∀w:World,(zeroValue 113).run prog w=.ok (.agg z.toArray) w):=⟨_,rfl,zeroHdE⟩
structure Small (m:Mg):Prop where
 rs:∀r∈m.rs.xs,r.s.size≤100000
 he:∀h∈m.he.xs,∀r∈h.rs.xs,r.s.size≤100000
theorem ze4 (N:Int) (m:Mg):(ownC N m.pure).length=m.rs.xs.length+m.cs.xs.length+(heC N (m.he.xs.map Hd.pure)).length+m.sg.xs.length:=by
 unfold ownC
 simp only[List.length_append,zaH,zaN,zbk]
 rfl
theorem ze6 (N:Int) (m:Mg) (O:Nat) (v:Value) (cs:List Ev) (w:World) (h:OutC w O v cs) (mo:m.ok) (ma0:m.At w) (mb:m.Bk (Clr O v)) (hn:cs.length+(ownC N m.pure).length≤1000000000) (hsm:Small m):
  Calls prog 53 #[.int .i64 N,.agg m.ms.cells.toArray,addV O] w fun en w'=>en=.returned (.tuple #[])∧∃v',OutC w' O v' (cs++ownC N m.pure)∧Grow w w' O v v':=by
 obtain⟨z39,hzl,hzr⟩:=zeroHd39
 obtain⟨z17,hsl,hsr⟩:∃z:List Value,z.length=17∧(∀w:World,(zeroValue 133).run prog w=.ok (.agg z.toArray) w):=⟨_,rfl,zeroSg17⟩
 have ca:=fun w0 vk ds e he h0 hl=>zcF O vk ds e w0 h0 he hl
 rw[ze4]at hn
 have HN:=hide hn
 obtain⟨B1,r1,sA⟩:=zu w m.ms.cells 52
 have MA:m.ms.at (w.alloc (.cells m.ms.cells.toArray 52)) w.heap.size:=mo.ms.at r1
 have HC0:CI (w.alloc (.cells m.ms.cells.toArray 52)) (w.alloc (.cells m.ms.cells.toArray 52)) O v v cs:=⟨h.below B1,Grow.refl _ _ _⟩
 have ma:=ma0.below B1
 have hcA:Clr O v w.heap.size:=⟨by have:=h.lt;omega,fun e=>by have:=(h.own.lt _ e).2;omega⟩
 have iC:(prog.info? 50).map (·.size)=some (certL m.ct m.cs).length:=by unfold certL;rw[List.length_append,mo.ct.len];kernel_rfl
 have HB1:=hide (Grow.of B1 O v)
 have rB:(w.alloc (.cells m.ms.cells.toArray 52)).rangeAt w.heap.size 5 [.bool m.q,m.rs.val]:=zcn MA.q MA.rs
 have rC0:(w.alloc (.cells m.ms.cells.toArray 52)).rangeAt w.heap.size 80 (certL m.ct m.cs):=MA.ct
 have pH0:(w.alloc (.cells m.ms.cells.toArray 52)).cell? ⟨w.heap.size,46,none⟩=some m.he.val:=MA.he
 have pS0:(w.alloc (.cells m.ms.cells.toArray 52)).cell? ⟨w.heap.size,118,none⟩=some m.sg.val:=MA.sg
 clear MA r1 ma0 h hn B1
 obtain⟨q,hq⟩:∃q,m.ms.cells=q:=⟨_,rfl⟩
 rw[hq]at sA HC0 ma HB1 rB rC0 pH0 pS0
 rw[hq]
 clear hq
 go_enter func53,ntmps53
 go_upto_region 1 with fail
 obtain⟨W,hW⟩:∃W,w.alloc (.cells q.toArray 52)=W:=⟨_,rfl⟩
 rw[hW]at sA HC0 ma HB1 rB rC0 pH0 pS0 ⊢
 clear hW
 obtain⟨A,hA⟩:∃A,w.heap.size=A:=⟨_,rfl⟩
 rw[hA]at sA hcA rB rC0 pH0 pS0
 simp only[hA]
 clear hA
 try simp only[Act.put]
 refine zb ?_
 refine pl_t 10 (?_) (by rfl) ?_ rfl ?_
 rotate_left
 ·go_simp
  try with_reducible rfl
 simp only[nz]
 refine pl_t 11 (?_) (by rfl) ?_ rfl ?_
 rotate_left
 ·go_simp
  try with_reducible rfl
 simp only[nz]
 refine pl_t 12 (.agg #[.bool m.q,m.rs.val]) (by rfl) (zp (cs:=[.bool m.q,m.rs.val]) rfl rfl rB underlying39 rfl (iszBaV _ _)) rfl ?_
 simp only[nz]
 refine pl_t 13 (?_) (by rfl) ?_ rfl ?_
 rotate_left
 ·go_simp
  try with_reducible rfl
 simp only[nz]
 refine ze (d:=some 14) (by rfl) (by go_simp;first|done|exact⟨rfl,rfl⟩|with_reducible rfl) rfl ?_
 refine(zgk N m.q m.rs O v cs W HC0.out ma.rs mb.1 (by have:=HN.out;omega) hsm.rs).mono ?_
 rintro _ w1 ⟨rfl,v1,o1,g1⟩
 refine⟨_,rfl,?_⟩
 simp only[nz]
 refine za ?_
 have HC1:=HC0.add o1 g1
 have rC:=HC1.grow.range sA hcA rC0
 clear rB o1 g1 HC0
 go_upto_region 2 with fail
 try simp only[Act.put]
 refine zb ?_
 refine pl_t 15 (?_) (by rfl) ?_ rfl ?_
 rotate_left
 ·go_simp
  try with_reducible rfl
 simp only[nz]
 refine pl_t 16 (.agg (certL m.ct m.cs).toArray) (by rfl) (zp rfl rfl rC underlying50 rfl iC) rfl ?_
 simp only[nz]
 refine pl_t 17 (?_) (by rfl) ?_ rfl ?_
 rotate_left
 ·go_simp
  try with_reducible rfl
 simp only[nz]
 refine ze (d:=some 18) (by rfl) (by go_simp;first|done|exact⟨rfl,rfl⟩|with_reducible rfl) rfl ?_
 refine(zf6 m.ct m.cs O v1 _ w1 HC1.out mo.ct (ma.cs.grow HC1.grow mb.2.2.2.2.1) (mb.2.2.2.2.1.grow ma.cs HC1.grow) (by have:=HN.out;rw[List.length_append,zaH];omega)).mono ?_
 rintro _ w2 ⟨rfl,v2,o2,g2⟩
 refine⟨_,rfl,?_⟩
 simp only[nz]
 refine za ?_
 have HC2:=HC1.add o2 g2
 have pH:=(zO (j:=46) (HC2.grow.keep sA hcA).1).1.trans pH0
 obtain⟨C2,hC2⟩:∃C,Hid (cs++batC N m.rs.xs++cerC m.ct m.cs.xs=C):=⟨_,hide rfl⟩
 rw[hC2.out]at HC2
 have hC2l:C2.length=cs.length+m.rs.xs.length+m.cs.xs.length:=by rw[←hC2.out];simp only[List.length_append,zaH,zaN]
 clear rC rC0 pH0 o2 g2 HC1 iC
 obtain⟨⟨ha,hc,hs⟩,hhe⟩:∃x,m.he=x:=⟨_,rfl⟩
 obtain⟨hl,hhl⟩:∃n,hs.length=n:=⟨_,rfl⟩
 have hval:(m.he).val=.slice ha hl hc:=by rw[hhe];unfold Sl.val;rw[←hhl]
 rw[hval]at pH
 clear hval
 have HH:=hide hhe
 have HL2:Hid (hs.length=hl):=hide hhl
 have HA:=hide ma
 have HB:=hide mb
 clear hhe hhl ma
 go_upto_region 3 with fail
 try simp only[Act.put]
 refine zb ?_
 refine pl_t 19 (?_) (by rfl) ?_ rfl ?_
 rotate_left
 ·go_simp
  try with_reducible rfl
 simp only[nz]
 refine pl_t 20 (?_) (by rfl) ?_ rfl ?_
 rotate_left
 ·go_simp
  try with_reducible rfl
 simp only[nz]
 refine pl_t 21 (.slice ha hl hc) (by rfl) (zg rfl rfl pH underlying44 rfl) rfl ?_
 simp only[nz]
 refine pl_t 22 (?_) (by rfl) ?_ rfl ?_
 rotate_left
 ·go_simp
  try with_reducible rfl
 simp only[nz]
 refine pl_t 23 (?_) (by rfl) ?_ rfl ?_
 rotate_left
 ·go_simp
  try with_reducible rfl
 simp only[nz]
 refine za ?_
 have HC3:Hid (CI W w2 O v v2 (C2++heC N ((hs.map Hd.pure).take 0))):=hide (by simpa [heC]using HC2)
 clear HC2 pH
 unfold addV
 go_wp2_with fail
 go_loopw [23] (fun iv wr=>∃(k:Nat) (vk:Value),k≤hl∧iv=.int .i64 (k:Int)∧Hid (CI W wr O v vk (C2++heC N ((hs.map Hd.pure).take k)))) (fun iv _=>hl - (intOf iv).toNat)
 case atStart=>exact⟨0,v2,by omega,rfl,HC3⟩
 case round=>
  clear HC3
  obtain⟨k,vk,hk,rfl,HK⟩:=hrel
  by_cases hlt:k<hl
  ·have k1:(k:Int)<hl:=by omega
   have hl9:hl≤9223372036854775807:=by
    have h1:=HA.out.he.1.1
    rw[HH.out]at h1
    have h2:hs.length≤maxLen:=h1
    rw[HL2.out]at h2
    unfold maxLen at h2
    omega
   have hkx:k<hs.length:=by rw[HL2.out];exact hlt
   have hat:HdsAt wr ⟨ha,hc,hs⟩:=by
    have:=HA.out.he.grow HK.out.grow HB.out.2.1 HB.out.2.2.1
    rw[HH.out]at this
    exact this
   obtain⟨b,off,hab,hbw,hre⟩:=hat.1.elem k hkx
   have hab:ha=some ⟨b,off,none⟩:=hab
   have hre:wr.rangeAt b (off+k*39) (HdE.f hs[k]):=hre
   have hmem:hs[k]∈m.he.xs:=by rw[HH.out];exact List.getElem_mem hkx
   have gat:=hat.2 _ (List.getElem_mem hkx)
   have gbk0:=HB.out.2.2.1 _ hmem
   have gat0:=HA.out.he.2 _ hmem
   have gbk:(hs[k]).Bk (Clr O vk):=⟨gbk0.1.grow gat0.1 HK.out.grow,gbk0.2.grow gat0.2 HK.out.grow⟩
   have gsm:=hsm.he _ hmem
   have okx:Vt.ok (hs[k]).vt:=hat.1.2.1 _ (List.getElem_mem hkx)
   have HT:Hid (heC N ((hs.map Hd.pure).take (k+1))=heC N ((hs.map Hd.pure).take k)++(batC N (hs[k]).rs.xs++cerC (hs[k]).vt (hs[k]).sg.xs)):=hide (by
    rw[zfz (by simpa using hkx)]
    simp[hdC,Hd.pure])
   have HL:Hid ((C2++heC N ((hs.map Hd.pure).take k)).length+(hs[k]).rs.xs.length+(hs[k]).sg.xs.length≤1000000000):=hide (by
    have h1:=zfA N (hs.map Hd.pure) (k+1)
    rw[HT.out]at h1
    simp only[List.length_append,zaH,zaN]at h1 ⊢
    have h2:=HN.out
    rw[HH.out]at h2
    simp only at h2
    omega)
   clear hat gbk0 gat0
   obtain⟨g,hg⟩:∃g,hs[k]=g:=⟨_,rfl⟩
   rw[hg]at hre gat gbk gsm okx HT HL
   clear hg hmem
   have gvt:=okx
   have hul:(HdE.f g).length=39:=HdE.len g okx
   have iu:(prog.info? 113).map (·.size)=some (HdE.f g).length:=by rw[hul];kernel_rfl
   have hu1:=HdE.one g
   have hgf:HdE.f g=.bool g.q::g.rs.val::certL g.vt g.sg:=rfl
   have iG:(prog.info? 50).map (·.size)=some (certL g.vt g.sg).length:=by unfold certL;rw[List.length_append,okx.len];kernel_rfl
   obtain⟨u,hu⟩:∃u,Hid (HdE.f g=u):=⟨_,hide rfl⟩
   rw[hu.out]at hre hul iu hu1 hgf
   clear hu okx
   rw[hab]
   go_upto_region 5 with fail
   obtain⟨r5,hF,hF3,-⟩:=zA wr z39.toArray 113 u (by simp[hzl,hul])
   try simp only[Act.put]
   refine zb ?_
   refine pl_t 25 (?_) (by rfl) ?_ rfl ?_
   rotate_left
   ·go_simp
    try with_reducible rfl
   simp only[nz]
   refine pl_t 26 (.agg u.toArray) (by rfl) (zp rfl rfl hre underlying113 rfl iu) rfl ?_
   simp only[nz]
   refine zj (d:=some 7) (v:=.pointer (some ⟨wr.heap.size,0,none⟩)) (w':=wr.alloc (.cells z39.toArray 113)) (by rfl) (zr rfl (hzr _)) rfl ?_
   simp only[nz]
   refine zf (w':=(wr.alloc (.cells z39.toArray 113)).setCells wr.heap.size 0 u) (by rfl) (zn (cs:=u.toArray) rfl rfl rfl (zm _ _ _ (by simp[hzl,hul])) (by simpa using iu) (zo hu1)) rfl ?_
   refine za ?_
   have HC:=HK.out.later hF
   have HX:=zcE HK.out (Nat.le_refl _)
   have gat:=gat.below hF
   clear HK
   obtain⟨X,hX⟩:∃X,wr.heap.size=X:=⟨_,rfl⟩
   simp only[hX]at r5 HC HX hF3 gat ⊢
   obtain⟨w5,hw5⟩:∃W,(wr.alloc (.cells z39.toArray 113)).setCells X 0 u=W:=⟨_,rfl⟩
   rw[hw5]at r5 HC hF3 gat ⊢
   have sX:X<w5.heap.size:=by omega
   clear hw5 hX hF hF3 hre hab
   have rB:w5.rangeAt X 0 [.bool g.q,g.rs.val]:=zcn (by simpa using r5 0 _ (by rw[hgf];rfl)) (by simpa using r5 1 _ (by rw[hgf];rfl))
   have rC0:w5.rangeAt X 2 (certL g.vt g.sg):=fun j y hy=>by
    have:=r5 (j+2) y (by rw[hgf];exact hy)
    rw[show 0+(j+2)=2+j by omega]at this
    exact this
   clear r5
   go_upto_region 6 with fail
   try simp only[Act.put]
   refine zb ?_
   refine pl_t 27 (?_) (by rfl) ?_ rfl ?_
   rotate_left
   ·go_simp
    try with_reducible rfl
   simp only[nz]
   refine pl_t 28 (?_) (by rfl) ?_ rfl ?_
   rotate_left
   ·go_simp
    try with_reducible rfl
   simp only[nz]
   refine pl_t 29 (.agg #[.bool g.q,g.rs.val]) (by rfl) (zp (cs:=[.bool g.q,g.rs.val]) rfl rfl rB underlying39 rfl (iszBaV _ _)) rfl ?_
   simp only[nz]
   refine pl_t 30 (?_) (by rfl) ?_ rfl ?_
   rotate_left
   ·go_simp
    try with_reducible rfl
   simp only[nz]
   refine ze (d:=some 31) (by rfl) (by go_simp;first|done|exact⟨rfl,rfl⟩|with_reducible rfl) rfl ?_
   refine(zgk N g.q g.rs O vk _ w5 HC.out gat.1 gbk.1 (by have:=HL.out;omega) gsm).mono ?_
   rintro _ w6 ⟨rfl,v6,o6,g6⟩
   refine⟨_,rfl,?_⟩
   simp only[nz]
   refine za ?_
   have rC:=g6.range sX HX rC0
   clear rB rC0
   go_upto_region 7 with fail
   try simp only[Act.put]
   refine zb ?_
   refine pl_t 32 (?_) (by rfl) ?_ rfl ?_
   rotate_left
   ·go_simp
    try with_reducible rfl
   simp only[nz]
   refine pl_t 33 (.agg (certL g.vt g.sg).toArray) (by rfl) (zp rfl rfl rC underlying50 rfl iG) rfl ?_
   simp only[nz]
   refine pl_t 34 (?_) (by rfl) ?_ rfl ?_
   rotate_left
   ·go_simp
    try with_reducible rfl
   simp only[nz]
   refine ze (d:=some 35) (by rfl) (by go_simp;first|done|exact⟨rfl,rfl⟩|with_reducible rfl) rfl ?_
   refine(zf6 g.vt g.sg O v6 _ w6 o6 gvt (gat.2.grow g6 gbk.2) (gbk.2.grow gat.2 g6) (by have:=HL.out;rw[List.length_append,zaH];omega)).mono ?_
   rintro _ w7 ⟨rfl,v7,o7,g7⟩
   refine⟨_,rfl,?_⟩
   simp only[nz]
   refine za ?_
   have HD:Hid (CI W w7 O v v7 (C2++heC N ((hs.map Hd.pure).take (k+1)))):=hide (by
    rw[HT.out,←List.append_assoc,←List.append_assoc]
    exact(HC.add o6 g6).add o7 g7)
   clear HC o6 g6 o7 g7 rC HT HL iu iG hul hu1 hgf gat gbk gsm gvt hsl hsr hzl hzr pS0
   go_wp2_with fail
   go_roundw
   case rel=>exact⟨k+1,v7,by omega,by go_num,HD⟩
   case measure=>simp[intOf];omega
  ·obtain rfl:k=hl:=by omega
   have HC4:CI W wr O v vk (C2++heC N (hs.map Hd.pure)):=by
    have h1:=HK.out
    rw[List.take_of_length_le (by rw[List.length_map,HL2.out];exact Nat.le_refl _)]at h1
    exact h1
   obtain⟨C3,hC3⟩:∃C,Hid (C2++heC N (hs.map Hd.pure)=C):=⟨_,hide rfl⟩
   rw[hC3.out]at HC4
   have pS:=(zO (j:=118) (HC4.grow.keep sA hcA).1).1.trans pS0
   obtain⟨⟨xa,xc,xs⟩,hsg⟩:∃x,m.sg=x:=⟨_,rfl⟩
   obtain⟨n,hxn⟩:∃n,xs.length=n:=⟨_,rfl⟩
   have hval:(m.sg).val=.slice xa n xc:=by rw[hsg];unfold Sl.val;rw[←hxn]
   rw[hval]at pS
   have HNN:Hid (C3.length+xs.length≤1000000000):=hide (by
    have h2:=HN.out
    rw[HH.out,hsg]at h2
    simp only at h2
    rw[←hC3.out]
    simp only[List.length_append]
    omega)
   have HXX:Hid (Sl.At SgE W ⟨xa,xc,xs⟩):=hide (by have:=HA.out.sg;rw[hsg]at this;exact this)
   have HCC:Hid (Sl.Bk (Sl.mk xa xc xs) (Clr O v)):=hide (by have:=HB.out.2.2.2.2.2;rw[hsg]at this;exact this)
   have HSG:=hide hsg
   have HX3:=hide hxn
   have HN2:=HN
   clear HN hval hsg hxn HK hlt hk
   have HN:=HX3
   go_upto_region 9 with fail
   try simp only[Act.put]
   refine zb ?_
   refine pl_t 37 (?_) (by rfl) ?_ rfl ?_
   rotate_left
   ·go_simp
    try with_reducible rfl
   simp only[nz]
   refine pl_t 38 (.slice xa n xc) (by rfl) (zg rfl rfl pS underlying48 rfl) rfl ?_
   simp only[nz]
   refine pl_t 39 (?_) (by rfl) ?_ rfl ?_
   rotate_left
   ·go_simp
    try with_reducible rfl
   simp only[nz]
   refine pl_t 40 (?_) (by rfl) ?_ rfl ?_
   rotate_left
   ·go_simp
    try with_reducible rfl
   simp only[nz]
   refine za ?_
   have HC5:Hid (CI W wr O v vk (C3++(sgC xs).take 0)):=hide (by rw[List.take_zero,List.append_nil];exact HC4)
   clear pS HC4 pS0
   go_wp2_with fail
   go_loopw [40] (fun iv wr=>∃(k:Nat) (vk:Value),k≤n∧iv=.int .i64 (k:Int)∧Hid (CI W wr O v vk (C3++(sgC xs).take k))) (fun iv _=>n - (intOf iv).toNat)
   case atStart=>exact⟨0,vk,by omega,rfl,HC5⟩
   case round=>
    clear HC5
    obtain⟨k,vk,hk,rfl,HK⟩:=hrel
    by_cases hlt:k<n
    ·have k1:(k:Int)<n:=by omega
     have hn9:n≤1000000000:=by have h1:=HNN.out;have h2:=HN.out;omega
     have hkx:k<xs.length:=by rw[HN.out];exact hlt
     obtain⟨b,off,hab,hbw,hre⟩:=(HXX.out.grow HK.out.grow HCC.out).elem k hkx
     have hab:xa=some ⟨b,off,none⟩:=hab
     have hre:wr.rangeAt b (off+k*17) (SgE.f xs[k]):=hre
     have okx:Sg.ok xs[k]:=HXX.out.2.1 _ (List.getElem_mem hkx)
     have HT:Hid ((sgC xs).take (k+1)=(sgC xs).take k++[⟨(xs[k]).n,(⟨#[]⟩:ByteArray),(xs[k]).t⟩]):=hide (zby hkx)
     have HL:(C3++(sgC xs).take k).length≤1000000000:=by have:=HNN.out;simp only[List.length_append,List.length_take];omega
     obtain⟨g,hg⟩:∃g,xs[k]=g:=⟨_,rfl⟩
     rw[hg]at hre okx HT
     clear hg
     have hok:Ev.ok ⟨g.n,(⟨#[]⟩:ByteArray),g.t⟩:=zev okx
     have ca:=fun w0 vk ds h0 hl=>ca w0 vk ds _ hok h0 hl
     have hut:SgE.f g=.int .i64 g.n::v8 g.t:=rfl
     have it16:(prog.info? 23).map (·.size)=some (v8 g.t).length:=by rw[v8_length,okx.tl];exact iszT
     have iu:(prog.info? 133).map (·.size)=some (SgE.f g).length:=by rw[SgE.len g okx];kernel_rfl
     have hul:(SgE.f g).length=17:=SgE.len g okx
     have hu1:=SgE.one g
     obtain⟨id,hid⟩:∃i,g.n=i:=⟨_,rfl⟩
     obtain⟨tg,htg⟩:∃t,g.t=t:=⟨_,rfl⟩
     rw[hid,htg]at HT
     rw[hid]at hut
     rw[htg]at hut it16
     simp only[hid,htg]at ca
     clear okx hok htg hid
     obtain⟨u,hu⟩:∃u,Hid (SgE.f g=u):=⟨_,hide rfl⟩
     rw[hu.out]at hre iu hul hu1 hut
     clear hu
     rw[hab]
     go_upto_region 11 with fail
     obtain⟨r5,hF,hF3,-⟩:=zA wr z17.toArray 133 u (by simp[hsl,hul])
     try simp only[Act.put]
     refine zb ?_
     refine pl_t 42 (?_) (by rfl) ?_ rfl ?_
     rotate_left
     ·go_simp
      try with_reducible rfl
     simp only[nz]
     refine pl_t 43 (.agg u.toArray) (by rfl) (zp rfl rfl hre underlying133 rfl iu) rfl ?_
     simp only[nz]
     refine zj (d:=some 9) (v:=.pointer (some ⟨wr.heap.size,0,none⟩)) (w':=wr.alloc (.cells z17.toArray 133)) (by rfl) (zr rfl (hsr _)) rfl ?_
     simp only[nz]
     refine zf (w':=(wr.alloc (.cells z17.toArray 133)).setCells wr.heap.size 0 u) (by rfl) (zn (cs:=u.toArray) rfl rfl rfl (zm _ _ _ (by simp[hsl,hul])) (by simpa using iu) (zo hu1)) rfl ?_
     refine za ?_
     have HC:=HK.out.later hF
     clear HK
     obtain⟨X,hX⟩:∃X,wr.heap.size=X:=⟨_,rfl⟩
     simp only[hX]at r5 HC hF3 ⊢
     obtain⟨w5,hw5⟩:∃W,(wr.alloc (.cells z17.toArray 133)).setCells X 0 u=W:=⟨_,rfl⟩
     rw[hw5]at r5 HC hF3 ⊢
     have sX:X<w5.heap.size:=by omega
     clear hw5 hX hF hF3 hre hab
     have c0:w5.cell? ⟨X,0,none⟩=some (.int .i64 id):=by simpa using r5 0 _ (by rw[hut];rfl)
     have ct:w5.rangeAt X 1 (v8 tg):=fun j y hy=>by
      have:=r5 (j+1) y (by rw[hut];exact hy)
      rw[show 0+(j+1)=1+j by omega]at this
      exact this
     clear r5
     go_upto_region 12 with fail
     try simp only[Act.put]
     refine zb ?_
     refine pl_t 44 (?_) (by rfl) ?_ rfl ?_
     rotate_left
     ·go_simp
      try with_reducible rfl
     simp only[nz]
     refine pl_t 45 (?_) (by rfl) ?_ rfl ?_
     rotate_left
     ·go_simp
      try with_reducible rfl
     simp only[nz]
     refine pl_t 46 (.int .i64 id) (by rfl) (zg rfl rfl c0 underlying3 rfl) rfl ?_
     simp only[nz]
     refine pl_t 47 (?_) (by rfl) ?_ rfl ?_
     rotate_left
     ·go_simp
      try with_reducible rfl
     simp only[nz]
     refine pl_t 48 (.agg (v8 tg).toArray) (by rfl) (zp rfl rfl ct underlying23 rfl it16) rfl ?_
     simp only[nz]
     refine ze (d:=some 49) (by rfl) (by go_simp;first|done|exact⟨rfl,rfl⟩|with_reducible rfl) rfl ?_
     refine(ca w5 vk (C3++(sgC xs).take k) HC.out HL).mono ?_
     rintro _ wc ⟨rfl,v',ho',hg'⟩
     refine⟨_,rfl,?_⟩
     simp only[nz]
     refine za ?_
     have HD:Hid (CI W wc O v v' (C3++(sgC xs).take (k+1))):=hide (by
      rw[HT.out,←List.append_assoc]
      exact HC.add ho' hg')
     clear HC ho' hg' c0 ct ca HT iu it16 hul hu1 hut hsr hsl
     go_wp2_with fail
     go_roundw
     case rel=>exact⟨k+1,v',by omega,by go_num,HD⟩
     case measure=>simp[intOf];omega
    ·obtain rfl:k=n:=by omega
     have HE:Hid (OutC wr O vk (cs++ownC N m.pure)∧Grow w wr O v vk):=hide (by
      have h1:=HK.out.out
      rw[List.take_of_length_le (by rw[zbk,HN.out];exact Nat.le_refl _),←hC3.out,←hC2.out]at h1
      have e:cs++ownC N m.pure=cs++batC N m.rs.xs++cerC m.ct m.cs.xs++heC N (hs.map Hd.pure)++sgC xs:=by
       unfold ownC Mg.pure
       rw[HH.out,HSG.out]
       simp only[List.append_assoc]
      rw[e]
      exact⟨h1,HB1.out.trans HK.out.grow⟩)
     clear HK ca hlt
     go_wp2_with fail
     go_end0
     exact⟨rfl,vk,HE.out⟩
end Go.Proofs.YtcbpbkefggekmaaGreatDoor
