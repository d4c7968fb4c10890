/- the document's block: one more block goes through the rounds; (*digest.running).end: the last bytes go behind what came; the words are told.; digest.begin, Sum  -/
import Derived.Test.YtcbpbkefggekmaaGreatDoorJS0
import Derived.Test.YtcbpbkefggekmaaGreatDoorJS1
import Derived.WalkKit
import Derived.Deep.AppendSrc
import Derived.OwnWalk
import Derived.WalkLawsBesides
set_option maxHeartbeats 8000000
set_option maxRecDepth 20000
open Go.Proofs.Tryz
namespace Go.Proofs.YtcbpbkefggekmaaGreatDoor
open Go.RowKit
open Sha
structure Bk (w wr:World) (cs:List Value) (xs:List Wd):Prop where
 bel:Below w.heap.size w wr
 box:wr.rangeAt w.heap.size 0 cs
 tb:wr.there w.heap.size 0 8
 tr:wr.there (w.heap.size+1) 0 8
 arr:wr.rangeAt (w.heap.size+2) 0 (v32 xs)
 ta:wr.there (w.heap.size+2) 0 64
 sz:w.heap.size+3≤wr.heap.size
theorem Bk.drewN {w wr:World} {cs:List Value} {xs:List Wd} (h:Bk w wr cs xs) (n:Nat):Bk w (wr.drewN n) cs xs:=
 ⟨⟨h.bel.os,h.bel.tape,h.bel.output,h.bel.size,h.bel.block⟩,zaB h.box,zbs h.tb,zbs h.tr,zaB h.arr,zbs h.ta,h.sz⟩
theorem Bk.set {w wr:World} {cs:List Value} {xs:List Wd} (h:Bk w wr cs xs) (_hc:cs.length=8) (i:Nat) (x:Wd):Bk w (wr.setCell ⟨w.heap.size+2,i,none⟩ (.int .u32 (x.toNat:Int))) cs (xs.set i x):=by
 refine⟨h.bel.setCell (p:=⟨w.heap.size+2,i,none⟩) (by simp) _,zaI h.box _ _ (fun e=>absurd e (by simp)),zP h.tb _ _,zP h.tr _ _,?_,zP h.ta _ _,by simpa using h.sz⟩
 have:=zaa h.arr i (.int .u32 (x.toNat:Int))
 rw[Nat.zero_add,zb6]at this
 exact this
theorem Bk.below {w wr wx:World} {cs:List Value} {xs:List Wd} (h:Bk w wr cs xs) (hb:Below wr.heap.size wr wx):Bk w wx cs xs:=by
 have:=h.sz
 exact⟨h.bel.trans (hb.mono h.bel.size),za h.box hb (by omega),zg h.tb hb (by omega),zg h.tr hb (by omega),za h.arr hb (by omega),zg h.ta hb (by omega),Nat.le_trans h.sz hb.size⟩
theorem zbf (x y:Wd):IntKind.u32.wrap ((x.toNat:Int)+(y.toNat:Int))=((x+y).toNat:Int):=by rw[IntKind.wrap_u32];exact zbJ x y
def k' (t:Nat):Wd:=k t
theorem zmE (t:Nat) (ht:t<64) (w:World):Calls prog 173 #[.int .i64 (t:Int)] w fun e w'=>e=.returned (.int .u32 ((k' t).toNat:Int))∧Below w.heap.size w w':=zmF t ht w
theorem zco:(prog.info? 168).map (·.size)=some 8:=by kernel_rfl
theorem zkG (x:Wd):bits .xor .u32 (if IntKind.u32.signed=true then -1 else IntKind.u32.max) (x.toNat:Int)=((~~~ x).toNat:Int):=by
 have hm:(if IntKind.u32.signed=true then -1 else IntKind.u32.max)=IntKind.u32.max:=by decide
 rw[hm];exact zgA x
theorem new8 (w:World):(w.alloc (.cells (Array.replicate 8 (.int .u32 0)) 168)).there w.heap.size 0 8:=by
 have:=zE w (Array.replicate 8 (.int .u32 0)) 168
 simpa using this
theorem znb (w:World) (cs:List Value) (hc:cs.length=8):Bk w (((w.alloc (.cells cs.toArray 168)).alloc (.cells (Array.replicate 8 (.int .u32 0)) 168)).alloc (.cells (Array.replicate 64 (.int .u32 0)) 238)) cs (List.replicate 64 (0:Wd)):=by
 have hR:=zC w cs.toArray 168
 have hT:=zE w cs.toArray 168
 have e1:(w.alloc (.cells cs.toArray 168)).heap.size=w.heap.size+1:=by simp
 have e2:((w.alloc (.cells cs.toArray 168)).alloc (.cells (Array.replicate 8 (.int .u32 0)) 168)).heap.size=w.heap.size+2:=by simp
 have hN:=new8 (w.alloc (.cells cs.toArray 168))
 have hZ:=zfU ((w.alloc (.cells cs.toArray 168)).alloc (.cells (Array.replicate 8 (.int .u32 0)) 168))
 have hY:=zb7 ((w.alloc (.cells cs.toArray 168)).alloc (.cells (Array.replicate 8 (.int .u32 0)) 168))
 rw[e1]at hN
 rw[e2]at hZ hY
 have hT:(w.alloc (.cells cs.toArray 168)).there w.heap.size 0 8:=fun j hj=>hT j (by simpa [hc]using hj)
 refine⟨(((Below.refl _ _).alloc (Nat.le_refl _) _).alloc (by simp) _).alloc (by simp;omega) _,World.rangeAt_alloc (World.rangeAt_alloc (by simpa using hR) _) _,World.there_alloc (World.there_alloc hT _) _,World.there_alloc hN _,hZ,hY,by simp⟩
theorem Bk.past {w wr:World} {cs:List Value} {xs:List Wd} (h:Bk w wr cs xs) {D:Nat} (hD:w.heap.size+3≤D) (vs:List Value):Bk w (wr.setCells D 0 vs) cs xs:=
 ⟨zi (by omega) _ _ _ h.bel,World.rangeAt_setCells_apart h.box _ _ _ (Or.inl (by omega)),World.there_setCells h.tb _ _ _,World.there_setCells h.tr _ _ _,World.rangeAt_setCells_apart h.arr _ _ _ (Or.inl (by omega)),World.there_setCells h.ta _ _ _,by rw[zB];exact h.sz⟩
theorem zkQ {wr:World} {B V:Nat} (s:St) (a b c d e f g h:Wd) (j:Nat) (hj:j<8) (hR:wr.rangeAt B 0 (v32 (mix s ⟨a,b,c,d,e,f,g,h⟩ j))) (hV:wr.rangeAt V 0 (v32 (list ⟨a,b,c,d,e,f,g,h⟩))):
    ∃x y:Wd,wr.cell? ⟨V,j,none⟩=some (.int .u32 (x.toNat:Int))∧wr.cell? ⟨B,j,none⟩=some (.int .u32 (y.toNat:Int))∧Hid ((mix s ⟨a,b,c,d,e,f,g,h⟩ j).set j (y+x)=mix s ⟨a,b,c,d,e,f,g,h⟩ (j+1)):=by
  match j,hj with
  |0,_=>exact⟨a,s.a,by simpa using hV 0 _ rfl,by simpa using hR 0 _ rfl,rfl⟩
  |1,_=>exact⟨b,s.b,by simpa using hV 1 _ rfl,by simpa using hR 1 _ rfl,rfl⟩
  |2,_=>exact⟨c,s.c,by simpa using hV 2 _ rfl,by simpa using hR 2 _ rfl,rfl⟩
  |3,_=>exact⟨d,s.d,by simpa using hV 3 _ rfl,by simpa using hR 3 _ rfl,rfl⟩
  |4,_=>exact⟨e,s.e,by simpa using hV 4 _ rfl,by simpa using hR 4 _ rfl,rfl⟩
  |5,_=>exact⟨f,s.f,by simpa using hV 5 _ rfl,by simpa using hR 5 _ rfl,rfl⟩
  |6,_=>exact⟨g,s.g,by simpa using hV 6 _ rfl,by simpa using hR 6 _ rfl,rfl⟩
  |7,_=>exact⟨h,s.h,by simpa using hV 7 _ rfl,by simpa using hR 7 _ rfl,rfl⟩
theorem zm8 (s:St) (b off cap:Nat) (bs:List Int) (ws:List Wd) (w:World) (n48:Nat) (_h48:Hid (n48=48)) (hws:Hid (exts n48 (words bs 16)=ws)) (hlen:bs.length=64) (hb:∀z∈bs,0≤z∧z<256) (hB:b<w.heap.size) (hc:w.rangeAt b off (v8 bs)):
   Calls prog 148 #[.agg (v32 (list s)).toArray,.slice (some ⟨b,off,none⟩) 64 cap] w fun e w'=>e=.returned (.agg (v32 (list (plus s (rounds ws 64 s)))).toArray)∧Below w.heap.size w w':=by
  obtain⟨cs,hcs0⟩:∃cs,Hid (v32 (list s)=cs):=⟨_,rfl⟩
  have hl8:cs.length=8:=by rw[←hcs0.out];rfl
  have h1c:∀v∈cs,v.oneCell'=true:=by rw[←hcs0.out];exact zbg _
  have hN:=znb w cs hl8
  rw[hcs0.out]
  go_enter func148,ntmps148
  go_upto_region 2 with fail
  go_name_world w1 hw1
  rw[show((w.alloc (.cells cs.toArray 168)).alloc (.cells (Array.replicate 8 (.int .u32 0)) 168)).alloc (.cells (Array.replicate 64 (.int .u32 0)) 238)=w1 from hw1]at hN
  have hz1:w1.heap.size=w.heap.size+3:=by rw[←hw1];simp
  clear hw1
  have HL8:Hid (cs.length=8):=hl8
  clear hl8
  simp only[Nat.add_assoc,Nat.reduceAdd]
  go_wp2
  go_loopw [6] (fun i wr=>∃k:Nat,k≤16∧i=.int .i64 (k:Int)∧Bk w wr cs (words bs k++List.replicate (64 - k) (0:Wd))∧wr.heap.size=w.heap.size+3) (fun i _=>16 - (intOf i).toNat)
  case atStart=>exact⟨0,by omega,rfl,hN,hz1⟩
  case round=>
    clear hN hz1
    obtain⟨k,hk,rfl,hK,hzr⟩:=hrel
    by_cases hlt:k<16
    · have hcr:=za hc hK.bel hB
      have b0:=zbr hb (4*k)
      have b1:=zbr hb (4*k+1)
      have b2:=zbr hb (4*k+2)
      have b3:=zbr hb (4*k+3)
      have g0:=get8 hcr (i:=4*k) (by omega)
      have g1:=get8 hcr (i:=4*k+1) (by omega)
      have g2:=get8 hcr (i:=4*k+2) (by omega)
      have g3:=get8 hcr (i:=4*k+3) (by omega)
      have hor:=zgj _ _ _ _ b0 b1 b2 b3
      obtain⟨x,hx⟩:∃x,Hid (wordAt bs k=x):=⟨_,rfl⟩
      have hx':word (bs.getD (4*k) 0) (bs.getD (4*k+1) 0) (bs.getD (4*k+2) 0) (bs.getD (4*k+3) 0)=x:=hx.out
      rw[hx']at hor
      generalize bs.getD (4*k) 0=c0 at *
      generalize bs.getD (4*k+1) 0=c1 at *
      generalize bs.getD (4*k+2) 0=c2 at *
      generalize bs.getD (4*k+3) 0=c3 at *
      obtain⟨u,hu⟩:=Option.isSome_iff_exists.1 (hK.ta k (by omega)).1
      have hf:=(hK.ta k (by omega)).2
      rw[Nat.zero_add]at hu hf
      clear hcr hx'
      go_wp2_with fail
      go_region
      go_wp2_with fail
      go_roundw
      case rel=>
        refine⟨k+1,by omega,by go_num,?_,by simpa using hzr⟩
        have:=(hK.set HL8.out k x).drewN 1
        have e1:=zcP (words bs k) (64 - k) x (by omega)
        rw[zbM]at e1
        rw[e1]at this
        rw[zeY,hx.out]
        exact this
      case measure=>simp[intOf];omega
    · obtain rfl:k=16:=by omega
      go_wp2
      go_loopw [7] (fun i wr=>∃k m:Nat,k≤48∧m=16+k∧i=.int .i64 (m:Int)∧Bk w wr cs (exts k (words bs 16)++List.replicate (48 - k) (0:Wd))∧wr.heap.size=w.heap.size+3) (fun i _=>64 - (intOf i).toNat)
      case atStart=>exact⟨0,16,by omega,rfl,rfl,hK,hzr⟩
      case round=>
        clear hK hzr
        obtain⟨k,m,hk,hm,rfl,hK,hzr⟩:=hrel
        by_cases hlt:k<48
        · have hl:(exts k (words bs 16)).length=m:=by rw[zdl,zbM,hm]
          have gt:∀j,j<m→wr.cell? ⟨w.heap.size+2,j,none⟩=some (.int .u32 (((exts k (words bs 16)).getD j 0).toNat:Int)):=fun j hj=>by
            have:=zbF hK.arr (i:=j) (by simp[hl];omega)
            rw[Nat.zero_add,zg1 _ _ _ (by omega)]at this;exact this
          have g15:=gt (m - 15) (by omega)
          have g2:=gt (m - 2) (by omega)
          have g16:=gt (m - 16) (by omega)
          have g7:=gt (m - 7) (by omega)
          obtain⟨x,hx⟩:∃x,Hid (nxt (exts k (words bs 16))=x):=⟨_,rfl⟩
          have hn:Hid ((exts k (words bs 16)).getD (m - 16) 0+s0 ((exts k (words bs 16)).getD (m - 15) 0)+(exts k (words bs 16)).getD (m - 7) 0+s1 ((exts k (words bs 16)).getD (m - 2) 0)=x):=by
            have:=hx.out;unfold nxt at this;rw[hl]at this;exact this
          generalize (exts k (words bs 16)).getD (m - 15) 0=y15 at g15 hn
          generalize (exts k (words bs 16)).getD (m - 2) 0=y2 at g2 hn
          generalize (exts k (words bs 16)).getD (m - 16) 0=y16 at g16 hn
          generalize (exts k (words bs 16)).getD (m - 7) 0=y7 at g7 hn
          obtain⟨u,hu⟩:=Option.isSome_iff_exists.1 (hK.ta m (by omega)).1
          have hf:=(hK.ta m (by omega)).2
          rw[Nat.zero_add]at hu hf
          have hm1:16≤m:=by omega
          have hm2:m<64:=by omega
          have HM:Hid (m=16+k):=hm
          have HL:Hid ((exts k (words bs 16)).length=m):=hl
          have E0:=zfI y15
          have E1:=zfH y2
          have EA:=zbf y16 (s0 y15)
          have EB:=zbf (y16+s0 y15) y7
          have EC:=zbf (y16+s0 y15+y7) (s1 y2)
          rw[hn.out]at EC
          generalize y16+s0 y15+y7=p2 at EB EC
          generalize y16+s0 y15=p1 at EA EB
          generalize s0 y15=q0 at E0 EA
          generalize s1 y2=q1 at E1 EC
          obtain⟨n16,hn16⟩:∃n16,n16=m - 16:=⟨_,rfl⟩
          obtain⟨n7,hn7⟩:∃n7,n7=m - 7:=⟨_,rfl⟩
          have W16:IntKind.i64.wrap ((m:Int) - 16)=(n16:Int):=by rw[IntKind.wrap_i64];omega
          have W7:IntKind.i64.wrap ((m:Int) - 7)=(n7:Int):=by rw[IntKind.wrap_i64];omega
          rw[←hn16]at g16
          rw[←hn7]at g7
          have l16:n16<m:=by omega
          have l7:n7<m:=by omega
          have i16:(n16:Int)<64:=by omega
          have i7:(n7:Int)<64:=by omega
          have im:(m:Int)<64:=by omega
          have HN16:Hid (n16=m - 16):=hn16
          have HN7:Hid (n7=m - 7):=hn7
          clear gt hm hl hn16 hn7
          let SX:World→Prop:=fun w'=>w'.cell? ⟨w.heap.size+2,n16,none⟩=some (.int .u32 (y16.toNat:Int))∧w'.cell? ⟨w.heap.size+2,n7,none⟩=some (.int .u32 (y7.toNat:Int))
          go_wp2_with fail
          refine zw (S:=SX) 30 rfl (by kernel_rfl) ?_
          have hS:SX _:=⟨by simpa using g16,by simpa using g7⟩
          refine hs_t 0 68 (?_) rfl (by kernel_rfl) (by kernel_rfl) (by kernel_rfl) (by rfl) ?_ hS rfl ?_
          rotate_left
          · intro w' hw
            obtain⟨f16,f7⟩:=hw
            go_simp
            try with_reducible rfl
          simp only[nz]
          refine hs_t 1 69 (?_) rfl (by kernel_rfl) (by kernel_rfl) (by kernel_rfl) (by rfl) ?_ hS rfl ?_
          rotate_left
          · intro w' hw
            obtain⟨f16,f7⟩:=hw
            go_simp
            try with_reducible rfl
          simp only[nz]
          refine hs_t 5 73 (?_) rfl (by kernel_rfl) (by kernel_rfl) (by kernel_rfl) (by rfl) ?_ hS rfl ?_
          rotate_left
          · intro w' hw
            obtain⟨f16,f7⟩:=hw
            go_simp
            try with_reducible rfl
          simp only[nz]
          refine hs_t 7 75 (?_) rfl (by kernel_rfl) (by kernel_rfl) (by kernel_rfl) (by rfl) ?_ hS rfl ?_
          rotate_left
          · intro w' hw
            obtain⟨f16,f7⟩:=hw
            go_simp
            try with_reducible rfl
          simp only[nz]
          refine hs_t 10 78 (?_) rfl (by kernel_rfl) (by kernel_rfl) (by kernel_rfl) (by rfl) ?_ hS rfl ?_
          rotate_left
          · intro w' hw
            obtain⟨f16,f7⟩:=hw
            go_simp
            try with_reducible rfl
          simp only[nz]
          refine hs_t 14 82 (?_) rfl (by kernel_rfl) (by kernel_rfl) (by kernel_rfl) (by rfl) ?_ hS rfl ?_
          rotate_left
          · intro w' hw
            obtain⟨f16,f7⟩:=hw
            go_simp
            try with_reducible rfl
          simp only[nz]
          refine hs_t 19 87 (?_) rfl (by kernel_rfl) (by kernel_rfl) (by kernel_rfl) (by rfl) ?_ hS rfl ?_
          rotate_left
          · intro w' hw
            obtain⟨f16,f7⟩:=hw
            go_simp
            try with_reducible rfl
          simp only[nz]
          refine hs_t 21 89 (?_) rfl (by kernel_rfl) (by kernel_rfl) (by kernel_rfl) (by rfl) ?_ hS rfl ?_
          rotate_left
          · intro w' hw
            obtain⟨f16,f7⟩:=hw
            go_simp
            try with_reducible rfl
          simp only[nz]
          refine hs_t 24 92 (?_) rfl (by kernel_rfl) (by kernel_rfl) (by kernel_rfl) (by rfl) ?_ hS rfl ?_
          rotate_left
          · intro w' hw
            obtain⟨f16,f7⟩:=hw
            go_simp
            try with_reducible rfl
          simp only[nz]
          refine hs_t 2 70 (?_) rfl (by kernel_rfl) (by kernel_rfl) (by kernel_rfl) (by rfl) ?_ hS rfl ?_
          rotate_left
          · intro w' hw
            obtain⟨f16,f7⟩:=hw
            go_simp
            try with_reducible rfl
          simp only[nz]
          refine hs_t 11 79 (?_) rfl (by kernel_rfl) (by kernel_rfl) (by kernel_rfl) (by rfl) ?_ hS rfl ?_
          rotate_left
          · intro w' hw
            obtain⟨f16,f7⟩:=hw
            go_simp
            try with_reducible rfl
          simp only[nz]
          refine hs_t 15 83 (?_) rfl (by kernel_rfl) (by kernel_rfl) (by kernel_rfl) (by rfl) ?_ hS rfl ?_
          rotate_left
          · intro w' hw
            obtain⟨f16,f7⟩:=hw
            go_simp
            try with_reducible rfl
          simp only[nz]
          refine hs_t 25 93 (?_) rfl (by kernel_rfl) (by kernel_rfl) (by kernel_rfl) (by rfl) ?_ hS rfl ?_
          rotate_left
          · intro w' hw
            obtain⟨f16,f7⟩:=hw
            go_simp
            try with_reducible rfl
          simp only[nz]
          refine hs_t 3 71 (?_) rfl (by kernel_rfl) (by kernel_rfl) (by kernel_rfl) (by rfl) ?_ hS rfl ?_
          rotate_left
          · intro w' hw
            obtain⟨f16,f7⟩:=hw
            go_simp
            try with_reducible rfl
          simp only[nz]
          refine hs_t 16 84 (?_) rfl (by kernel_rfl) (by kernel_rfl) (by kernel_rfl) (by rfl) ?_ hS rfl ?_
          rotate_left
          · intro w' hw
            obtain⟨f16,f7⟩:=hw
            go_simp
            try with_reducible rfl
          simp only[nz]
          refine hs_t 4 72 (?_) rfl (by kernel_rfl) (by kernel_rfl) (by kernel_rfl) (by rfl) ?_ hS rfl ?_
          rotate_left
          · intro w' hw
            obtain⟨f16,f7⟩:=hw
            go_simp
            try with_reducible rfl
          simp only[nz]
          refine hs_t 17 85 (?_) rfl (by kernel_rfl) (by kernel_rfl) (by kernel_rfl) (by rfl) ?_ hS rfl ?_
          rotate_left
          · intro w' hw
            obtain⟨f16,f7⟩:=hw
            go_simp
            try with_reducible rfl
          simp only[nz]
          refine hs_c 6 74 ?_
          refine(za3 y15 7 7 rfl (by decide) (by decide) _).mono ?_
          rintro e' wn ⟨rfl,rfl⟩
          have hS:SX _:=⟨by simpa using hS.1,by simpa using hS.2⟩
          refine⟨_,rfl,hS,?_⟩
          simp only[nz]
          refine hs_c 8 76 ?_
          refine(za3 y15 18 18 rfl (by decide) (by decide) _).mono ?_
          rintro e' wn ⟨rfl,rfl⟩
          have hS:SX _:=⟨by simpa using hS.1,by simpa using hS.2⟩
          refine⟨_,rfl,hS,?_⟩
          simp only[nz]
          refine hs_t 9 77 (?_) rfl (by kernel_rfl) (by kernel_rfl) (by kernel_rfl) (by rfl) ?_ hS rfl ?_
          rotate_left
          · intro w' hw
            obtain⟨f16,f7⟩:=hw
            go_simp
            try with_reducible rfl
          simp only[nz]
          refine hs_t 12 80 (?_) rfl (by kernel_rfl) (by kernel_rfl) (by kernel_rfl) (by rfl) ?_ hS rfl ?_
          rotate_left
          · intro w' hw
            obtain⟨f16,f7⟩:=hw
            go_simp
            try with_reducible rfl
          simp only[nz]
          refine hs_t 13 81 (?_) rfl (by kernel_rfl) (by kernel_rfl) (by kernel_rfl) (by rfl) ?_ hS rfl ?_
          rotate_left
          · intro w' hw
            obtain⟨f16,f7⟩:=hw
            go_simp
            try with_reducible rfl
          simp only[nz]
          refine hs_t 18 86 (?_) rfl (by kernel_rfl) (by kernel_rfl) (by kernel_rfl) (by rfl) ?_ hS rfl ?_
          rotate_left
          · intro w' hw
            obtain⟨f16,f7⟩:=hw
            go_simp
            try with_reducible rfl
          simp only[nz]
          refine hs_c 20 88 ?_
          refine(za3 y2 17 17 rfl (by decide) (by decide) _).mono ?_
          rintro e' wn ⟨rfl,rfl⟩
          have hS:SX _:=⟨by simpa using hS.1,by simpa using hS.2⟩
          refine⟨_,rfl,hS,?_⟩
          simp only[nz]
          refine hs_c 22 90 ?_
          refine(za3 y2 19 19 rfl (by decide) (by decide) _).mono ?_
          rintro e' wn ⟨rfl,rfl⟩
          have hS:SX _:=⟨by simpa using hS.1,by simpa using hS.2⟩
          refine⟨_,rfl,hS,?_⟩
          simp only[nz]
          refine hs_t 23 91 (?_) rfl (by kernel_rfl) (by kernel_rfl) (by kernel_rfl) (by rfl) ?_ hS rfl ?_
          rotate_left
          · intro w' hw
            obtain⟨f16,f7⟩:=hw
            go_simp
            try with_reducible rfl
          simp only[nz]
          refine hs_t 26 94 (?_) rfl (by kernel_rfl) (by kernel_rfl) (by kernel_rfl) (by rfl) ?_ hS rfl ?_
          rotate_left
          · intro w' hw
            obtain⟨f16,f7⟩:=hw
            go_simp
            try with_reducible rfl
          simp only[nz]
          refine hs_t 27 95 (?_) rfl (by kernel_rfl) (by kernel_rfl) (by kernel_rfl) (by rfl) ?_ hS rfl ?_
          rotate_left
          · intro w' hw
            obtain⟨f16,f7⟩:=hw
            go_simp
            try with_reducible rfl
          simp only[nz]
          refine hs_t 28 96 (?_) rfl (by kernel_rfl) (by kernel_rfl) (by kernel_rfl) (by rfl) ?_ hS rfl ?_
          rotate_left
          · intro w' hw
            obtain⟨f16,f7⟩:=hw
            go_simp
            try with_reducible rfl
          simp only[nz]
          refine zG (i:=29) (w':=(wr.setCell ⟨w.heap.size+2,m,none⟩ (.int .u32 (x.toNat:Int))).drew.drew.drew.drew.drew) rfl (by kernel_rfl) (by rfl) (by go_simp;try with_reducible rfl) rfl ⟨(World.cell?_setCell_other _ _ _ _ (fun q=>by injection q with _ q2 _;omega)).trans hS.1,(World.cell?_setCell_other _ _ _ _ (fun q=>by injection q with _ q2 _;omega)).trans hS.2⟩ ?_
          refine zv (by kernel_rfl) ?_
          go_wp2_with fail
          go_roundw
          case rel=>
            refine⟨k+1,m+1,by omega,by rw[HM.out];omega,by go_num,?_,by simpa using hzr⟩
            have:=(hK.set HL8.out m x).drewN 5
            have e1:=zcP (exts k (words bs 16)) (48 - k) x (by omega)
            rw[HL.out]at e1
            rw[e1]at this
            show Bk w _ cs (ext (exts k (words bs 16))++List.replicate (48 - (k+1)) (0:Wd))
            unfold ext
            rw[hx.out]
            exact this
          case measure=>simp[intOf];omega
        · have hk48:k=48:=by omega
          have hm':¬(m:Int)<64:=by omega
          have hKw:Bk w wr cs ws:=by
            have e:exts k (words bs 16)++List.replicate (48 - k) (0:Wd)=ws:=by
              rw[show 48 - k=0 by omega,List.replicate_zero,List.append_nil,←hws.out,_h48.out,hk48]
            rw[e]at hK
            exact hK
          have hwl:Hid (ws.length=64):=by rw[←hws.out,_h48.out];show(exts 48 (words bs 16)).length=64;rw[zdl,zbM]
          clear hK hws hk hlt hm hk48
          have hbox:=hKw.box
          have hi8:(prog.info? 168).map (·.size)=some cs.length:=by rw[HL8.out];exact zco
          have hi8':(prog.info? 168).map (·.size)=some cs.toArray.size:=by rw[List.size_toArray];exact hi8
          have hN8:(wr.alloc (.cells (Array.replicate 8 (.int .u32 0)) 168)).there (w.heap.size+3) 0 cs.toArray.size:=by
            have e:cs.toArray.size=8:=by rw[List.size_toArray,HL8.out]
            rw[e,←hzr];exact new8 wr
          go_upto_region 13 with(first|refine wpList_load_mid rfl 168 _ rfl _ _ rfl cs _ hbox underlying168 rfl hi8 ?_|refine wpList_store_mid rfl 168 _ _ rfl _ _ cs.toArray rfl rfl hN8 hi8' (all_oneCell_toArray h1c) ?_)
          go_name_world w2 hw2
          have F:=zq wr (Array.replicate 8 (.int .u32 0)) 168 cs (by rw[HL8.out];rfl)
          rw[show(wr.alloc (.cells (Array.replicate 8 (.int .u32 0)) 168)).setCells wr.heap.size 0 cs=w2 by rw[hzr];exact hw2]at F
          obtain⟨hV0,hB2,hz2,hTV0⟩:=F
          have hK2:=hKw.below hB2
          rw[hzr]at hV0 hTV0 hz2
          have hV2:w.heap.size+3<w2.heap.size:=by omega
          clear hw2 hN8 hi8 hi8' hbox hKw hB2 hm' hzr hz2
          obtain⟨V,hVd⟩:∃V,w.heap.size+3=V:=⟨_,rfl⟩
          have hVw:w.heap.size+3≤V:=by omega
          rw[hVd]at hV0 hTV0 hV2 ⊢
          have HVD:Hid (w.heap.size+3=V):=hVd
          clear hVd
          rw[←hcs0.out]at hV0
          simp only[Act.put]
          go_wp2
          go_loopw [11] (fun i wr=>∃(t:Nat) (st:St),t≤64∧i=.int .i64 (t:Int)∧Hid (rounds ws t s=st)∧Bk w wr cs ws∧wr.rangeAt V 0 (v32 (list st))∧wr.there V 0 8∧V<wr.heap.size) (fun i _=>64 - (intOf i).toNat)
          case atStart=>exact⟨0,s,by omega,rfl,rfl,hK2,hV0,by simpa using hTV0,hV2⟩
          case round=>
            clear hK2 hV0 hTV0 hV2
            obtain⟨t,⟨a,b',c,d,e,f,g,hh⟩,ht,rfl,hst,hK,hV,hTV,hVs⟩:=hrel
            by_cases hlt:t<64
            · have gx:=zbF hK.arr (i:=t) (by rw[hwl.out];exact hlt)
              rw[Nat.zero_add]at gx
              have hnx:Hid (rounds ws (t+1) s=round (k' t) (ws.getD t 0) ⟨a,b',c,d,e,f,g,hh⟩):=by
                show round _ _ (rounds ws t s)=_
                rw[hst.out];rfl
              generalize ws.getD t 0=x at gx hnx
              have hXs:w.heap.size+2<wr.heap.size:=by have:=hK.sz;omega
              have g0:wr.cell? ⟨V,0,none⟩=some (.int .u32 (a.toNat:Int)):=by simpa using hV 0 _ rfl
              have g1:wr.cell? ⟨V,1,none⟩=some (.int .u32 (b'.toNat:Int)):=by simpa using hV 1 _ rfl
              have g2:wr.cell? ⟨V,2,none⟩=some (.int .u32 (c.toNat:Int)):=by simpa using hV 2 _ rfl
              have g3:wr.cell? ⟨V,3,none⟩=some (.int .u32 (d.toNat:Int)):=by simpa using hV 3 _ rfl
              have g4:wr.cell? ⟨V,4,none⟩=some (.int .u32 (e.toNat:Int)):=by simpa using hV 4 _ rfl
              have g5:wr.cell? ⟨V,5,none⟩=some (.int .u32 (f.toNat:Int)):=by simpa using hV 5 _ rfl
              have g6:wr.cell? ⟨V,6,none⟩=some (.int .u32 (g.toNat:Int)):=by simpa using hV 6 _ rfl
              have g7:wr.cell? ⟨V,7,none⟩=some (.int .u32 (hh.toNat:Int)):=by simpa using hV 7 _ rfl
              have it:(t:Int)<64:=by omega
              obtain⟨T1,hT1⟩:∃T1,Hid (t1 (k' t) x ⟨a,b',c,d,e,f,g,hh⟩=T1):=⟨_,rfl⟩
              obtain⟨T2,hT2⟩:∃T2,Hid (t2 ⟨a,b',c,d,e,f,g,hh⟩=T2):=⟨_,rfl⟩
              have hr:Hid (round (k' t) x ⟨a,b',c,d,e,f,g,hh⟩=⟨T1+T2,a,b',c,d+T1,e,f,g⟩):=by
                show round _ _ _=_
                unfold round
                rw[hT1.out,hT2.out]
              have X1:=zaF (rotr e 6) (rotr e 11)
              have X2:=zaF (rotr e 6^^^rotr e 11) (rotr e 25)
              have A1:=zbf hh (rotr e 6^^^rotr e 11^^^rotr e 25)
              have C1:=zbI e f
              have C2:=zkG e
              have C3:=zbI (~~~ e) g
              have C4:=zaF (e&&&f) (~~~ e&&&g)
              have A2:=zbf (hh+(rotr e 6^^^rotr e 11^^^rotr e 25)) ((e&&&f)^^^(~~~ e&&&g))
              have A3:=zbf (hh+(rotr e 6^^^rotr e 11^^^rotr e 25)+((e&&&f)^^^(~~~ e&&&g))) (k' t)
              have A4:=zbf (hh+(rotr e 6^^^rotr e 11^^^rotr e 25)+((e&&&f)^^^(~~~ e&&&g))+k' t) x
              have ht1:hh+(rotr e 6^^^rotr e 11^^^rotr e 25)+((e&&&f)^^^(~~~ e&&&g))+k' t+x=T1:=hT1.out
              rw[ht1]at A4
              generalize hh+(rotr e 6^^^rotr e 11^^^rotr e 25)+((e&&&f)^^^(~~~ e&&&g))+k' t=v3 at A3 A4
              generalize hh+(rotr e 6^^^rotr e 11^^^rotr e 25)+((e&&&f)^^^(~~~ e&&&g))=v2 at A2 A3
              generalize hh+(rotr e 6^^^rotr e 11^^^rotr e 25)=v1 at A1 A2
              generalize rotr e 6^^^rotr e 11^^^rotr e 25=u2 at X2 A1
              generalize rotr e 6^^^rotr e 11=u1 at X1 X2
              generalize (e&&&f)^^^(~~~ e&&&g)=u6 at C4 A2
              generalize ~~~ e&&&g=u5 at C3 C4
              generalize ~~~ e=u4 at C2 C3
              generalize e&&&f=u3 at C1 C4
              clear ht1
              have Y1:=zaF (rotr a 2) (rotr a 13)
              have Y2:=zaF (rotr a 2^^^rotr a 13) (rotr a 22)
              have D1:=zbI a b'
              have D2:=zbI a c
              have D3:=zaF (a&&&b') (a&&&c)
              have D4:=zbI b' c
              have D5:=zaF (a&&&b'^^^a&&&c) (b'&&&c)
              have D6:=zbf (rotr a 2^^^rotr a 13^^^rotr a 22) (a&&&b'^^^a&&&c^^^b'&&&c)
              have ht2:(rotr a 2^^^rotr a 13^^^rotr a 22)+(a&&&b'^^^a&&&c^^^b'&&&c)=T2:=hT2.out
              rw[ht2]at D6
              generalize rotr a 2^^^rotr a 13^^^rotr a 22=z2 at Y2 D6
              generalize rotr a 2^^^rotr a 13=z1 at Y1 Y2
              generalize a&&&b'^^^a&&&c^^^b'&&&c=z5 at D5 D6
              generalize a&&&b'^^^a&&&c=z4 at D3 D5
              generalize b'&&&c=z6 at D4 D5
              generalize a&&&b'=z7 at D1 D3
              generalize a&&&c=z8 at D2 D3
              clear ht2
              let SB:World→Prop:=fun w'=>Below wr.heap.size wr w'
              go_upto_region 18 with fail
              refine zw (S:=SB) 30 rfl (by kernel_rfl) ?_
              have hS:SB _:=(Below.refl _ _).drew
              refine hs_t 0 106 (?_) rfl (by kernel_rfl) (by kernel_rfl) (by kernel_rfl) (by rfl) ?_ hS rfl ?_
              rotate_left
              · intro w' hw
                have f7:=(hw.cell (p:=⟨V,7,none⟩) hVs).trans g7;have f5:=(hw.cell (p:=⟨V,5,none⟩) hVs).trans g5;have f6:=(hw.cell (p:=⟨V,6,none⟩) hVs).trans g6;have fx:=(hw.cell (p:=⟨w.heap.size+2,t,none⟩) hXs).trans gx
                go_simp
                try with_reducible rfl
              simp only[nz]
              refine hs_t 2 108 (?_) rfl (by kernel_rfl) (by kernel_rfl) (by kernel_rfl) (by rfl) ?_ hS rfl ?_
              rotate_left
              · intro w' hw
                have f7:=(hw.cell (p:=⟨V,7,none⟩) hVs).trans g7;have f5:=(hw.cell (p:=⟨V,5,none⟩) hVs).trans g5;have f6:=(hw.cell (p:=⟨V,6,none⟩) hVs).trans g6;have fx:=(hw.cell (p:=⟨w.heap.size+2,t,none⟩) hXs).trans gx
                go_simp
                try with_reducible rfl
              simp only[nz]
              refine hs_t 4 110 (?_) rfl (by kernel_rfl) (by kernel_rfl) (by kernel_rfl) (by rfl) ?_ hS rfl ?_
              rotate_left
              · intro w' hw
                have f7:=(hw.cell (p:=⟨V,7,none⟩) hVs).trans g7;have f5:=(hw.cell (p:=⟨V,5,none⟩) hVs).trans g5;have f6:=(hw.cell (p:=⟨V,6,none⟩) hVs).trans g6;have fx:=(hw.cell (p:=⟨w.heap.size+2,t,none⟩) hXs).trans gx
                go_simp
                try with_reducible rfl
              simp only[nz]
              refine hs_t 7 113 (?_) rfl (by kernel_rfl) (by kernel_rfl) (by kernel_rfl) (by rfl) ?_ hS rfl ?_
              rotate_left
              · intro w' hw
                have f7:=(hw.cell (p:=⟨V,7,none⟩) hVs).trans g7;have f5:=(hw.cell (p:=⟨V,5,none⟩) hVs).trans g5;have f6:=(hw.cell (p:=⟨V,6,none⟩) hVs).trans g6;have fx:=(hw.cell (p:=⟨w.heap.size+2,t,none⟩) hXs).trans gx
                go_simp
                try with_reducible rfl
              simp only[nz]
              refine hs_t 11 117 (?_) rfl (by kernel_rfl) (by kernel_rfl) (by kernel_rfl) (by rfl) ?_ hS rfl ?_
              rotate_left
              · intro w' hw
                have f7:=(hw.cell (p:=⟨V,7,none⟩) hVs).trans g7;have f5:=(hw.cell (p:=⟨V,5,none⟩) hVs).trans g5;have f6:=(hw.cell (p:=⟨V,6,none⟩) hVs).trans g6;have fx:=(hw.cell (p:=⟨w.heap.size+2,t,none⟩) hXs).trans gx
                go_simp
                try with_reducible rfl
              simp only[nz]
              refine hs_t 12 118 (?_) rfl (by kernel_rfl) (by kernel_rfl) (by kernel_rfl) (by rfl) ?_ hS rfl ?_
              rotate_left
              · intro w' hw
                have f7:=(hw.cell (p:=⟨V,7,none⟩) hVs).trans g7;have f5:=(hw.cell (p:=⟨V,5,none⟩) hVs).trans g5;have f6:=(hw.cell (p:=⟨V,6,none⟩) hVs).trans g6;have fx:=(hw.cell (p:=⟨w.heap.size+2,t,none⟩) hXs).trans gx
                go_simp
                try with_reducible rfl
              simp only[nz]
              refine hs_t 15 121 (?_) rfl (by kernel_rfl) (by kernel_rfl) (by kernel_rfl) (by rfl) ?_ hS rfl ?_
              rotate_left
              · intro w' hw
                have f7:=(hw.cell (p:=⟨V,7,none⟩) hVs).trans g7;have f5:=(hw.cell (p:=⟨V,5,none⟩) hVs).trans g5;have f6:=(hw.cell (p:=⟨V,6,none⟩) hVs).trans g6;have fx:=(hw.cell (p:=⟨w.heap.size+2,t,none⟩) hXs).trans gx
                go_simp
                try with_reducible rfl
              simp only[nz]
              refine hs_t 17 123 (?_) rfl (by kernel_rfl) (by kernel_rfl) (by kernel_rfl) (by rfl) ?_ hS rfl ?_
              rotate_left
              · intro w' hw
                have f7:=(hw.cell (p:=⟨V,7,none⟩) hVs).trans g7;have f5:=(hw.cell (p:=⟨V,5,none⟩) hVs).trans g5;have f6:=(hw.cell (p:=⟨V,6,none⟩) hVs).trans g6;have fx:=(hw.cell (p:=⟨w.heap.size+2,t,none⟩) hXs).trans gx
                go_simp
                try with_reducible rfl
              simp only[nz]
              refine hs_t 22 128 (?_) rfl (by kernel_rfl) (by kernel_rfl) (by kernel_rfl) (by rfl) ?_ hS rfl ?_
              rotate_left
              · intro w' hw
                have f7:=(hw.cell (p:=⟨V,7,none⟩) hVs).trans g7;have f5:=(hw.cell (p:=⟨V,5,none⟩) hVs).trans g5;have f6:=(hw.cell (p:=⟨V,6,none⟩) hVs).trans g6;have fx:=(hw.cell (p:=⟨w.heap.size+2,t,none⟩) hXs).trans gx
                go_simp
                try with_reducible rfl
              simp only[nz]
              refine hs_t 25 131 (?_) rfl (by kernel_rfl) (by kernel_rfl) (by kernel_rfl) (by rfl) ?_ hS rfl ?_
              rotate_left
              · intro w' hw
                have f7:=(hw.cell (p:=⟨V,7,none⟩) hVs).trans g7;have f5:=(hw.cell (p:=⟨V,5,none⟩) hVs).trans g5;have f6:=(hw.cell (p:=⟨V,6,none⟩) hVs).trans g6;have fx:=(hw.cell (p:=⟨w.heap.size+2,t,none⟩) hXs).trans gx
                go_simp
                try with_reducible rfl
              simp only[nz]
              refine hs_t 1 107 (?_) rfl (by kernel_rfl) (by kernel_rfl) (by kernel_rfl) (by rfl) ?_ hS rfl ?_
              rotate_left
              · intro w' hw
                have f7:=(hw.cell (p:=⟨V,7,none⟩) hVs).trans g7;have f5:=(hw.cell (p:=⟨V,5,none⟩) hVs).trans g5;have f6:=(hw.cell (p:=⟨V,6,none⟩) hVs).trans g6;have fx:=(hw.cell (p:=⟨w.heap.size+2,t,none⟩) hXs).trans gx
                go_simp
                try with_reducible rfl
              simp only[nz]
              refine hs_t 13 119 (?_) rfl (by kernel_rfl) (by kernel_rfl) (by kernel_rfl) (by rfl) ?_ hS rfl ?_
              rotate_left
              · intro w' hw
                have f7:=(hw.cell (p:=⟨V,7,none⟩) hVs).trans g7;have f5:=(hw.cell (p:=⟨V,5,none⟩) hVs).trans g5;have f6:=(hw.cell (p:=⟨V,6,none⟩) hVs).trans g6;have fx:=(hw.cell (p:=⟨w.heap.size+2,t,none⟩) hXs).trans gx
                go_simp
                try with_reducible rfl
              simp only[nz]
              refine hs_t 16 122 (?_) rfl (by kernel_rfl) (by kernel_rfl) (by kernel_rfl) (by rfl) ?_ hS rfl ?_
              rotate_left
              · intro w' hw
                have f7:=(hw.cell (p:=⟨V,7,none⟩) hVs).trans g7;have f5:=(hw.cell (p:=⟨V,5,none⟩) hVs).trans g5;have f6:=(hw.cell (p:=⟨V,6,none⟩) hVs).trans g6;have fx:=(hw.cell (p:=⟨w.heap.size+2,t,none⟩) hXs).trans gx
                go_simp
                try with_reducible rfl
              simp only[nz]
              refine hs_t 18 124 (?_) rfl (by kernel_rfl) (by kernel_rfl) (by kernel_rfl) (by rfl) ?_ hS rfl ?_
              rotate_left
              · intro w' hw
                have f7:=(hw.cell (p:=⟨V,7,none⟩) hVs).trans g7;have f5:=(hw.cell (p:=⟨V,5,none⟩) hVs).trans g5;have f6:=(hw.cell (p:=⟨V,6,none⟩) hVs).trans g6;have fx:=(hw.cell (p:=⟨w.heap.size+2,t,none⟩) hXs).trans gx
                go_simp
                try with_reducible rfl
              simp only[nz]
              refine hs_t 26 132 (?_) rfl (by kernel_rfl) (by kernel_rfl) (by kernel_rfl) (by rfl) ?_ hS rfl ?_
              rotate_left
              · intro w' hw
                have f7:=(hw.cell (p:=⟨V,7,none⟩) hVs).trans g7;have f5:=(hw.cell (p:=⟨V,5,none⟩) hVs).trans g5;have f6:=(hw.cell (p:=⟨V,6,none⟩) hVs).trans g6;have fx:=(hw.cell (p:=⟨w.heap.size+2,t,none⟩) hXs).trans gx
                go_simp
                try with_reducible rfl
              simp only[nz]
              refine hs_t 14 120 (?_) rfl (by kernel_rfl) (by kernel_rfl) (by kernel_rfl) (by rfl) ?_ hS rfl ?_
              rotate_left
              · intro w' hw
                have f7:=(hw.cell (p:=⟨V,7,none⟩) hVs).trans g7;have f5:=(hw.cell (p:=⟨V,5,none⟩) hVs).trans g5;have f6:=(hw.cell (p:=⟨V,6,none⟩) hVs).trans g6;have fx:=(hw.cell (p:=⟨w.heap.size+2,t,none⟩) hXs).trans gx
                go_simp
                try with_reducible rfl
              simp only[nz]
              refine hs_t 19 125 (?_) rfl (by kernel_rfl) (by kernel_rfl) (by kernel_rfl) (by rfl) ?_ hS rfl ?_
              rotate_left
              · intro w' hw
                have f7:=(hw.cell (p:=⟨V,7,none⟩) hVs).trans g7;have f5:=(hw.cell (p:=⟨V,5,none⟩) hVs).trans g5;have f6:=(hw.cell (p:=⟨V,6,none⟩) hVs).trans g6;have fx:=(hw.cell (p:=⟨w.heap.size+2,t,none⟩) hXs).trans gx
                go_simp
                try with_reducible rfl
              simp only[nz]
              refine hs_t 27 133 (?_) rfl (by kernel_rfl) (by kernel_rfl) (by kernel_rfl) (by rfl) ?_ hS rfl ?_
              rotate_left
              · intro w' hw
                have f7:=(hw.cell (p:=⟨V,7,none⟩) hVs).trans g7;have f5:=(hw.cell (p:=⟨V,5,none⟩) hVs).trans g5;have f6:=(hw.cell (p:=⟨V,6,none⟩) hVs).trans g6;have fx:=(hw.cell (p:=⟨w.heap.size+2,t,none⟩) hXs).trans gx
                go_simp
                try with_reducible rfl
              simp only[nz]
              refine hs_t 20 126 (?_) rfl (by kernel_rfl) (by kernel_rfl) (by kernel_rfl) (by rfl) ?_ hS rfl ?_
              rotate_left
              · intro w' hw
                have f7:=(hw.cell (p:=⟨V,7,none⟩) hVs).trans g7;have f5:=(hw.cell (p:=⟨V,5,none⟩) hVs).trans g5;have f6:=(hw.cell (p:=⟨V,6,none⟩) hVs).trans g6;have fx:=(hw.cell (p:=⟨w.heap.size+2,t,none⟩) hXs).trans gx
                go_simp
                try with_reducible rfl
              simp only[nz]
              refine hs_c 3 109 ?_
              refine(za3 e 6 6 rfl (by decide) (by decide) _).mono ?_
              rintro e' wn ⟨rfl,hwn⟩
              have hS:SB wn:=hS.trans (by rw[hwn];exact(Below.refl _ _).drew)
              refine⟨_,rfl,hS,?_⟩
              simp only[nz]
              refine hs_c 5 111 ?_
              refine(za3 e 11 11 rfl (by decide) (by decide) _).mono ?_
              rintro e' wn ⟨rfl,hwn⟩
              have hS:SB wn:=hS.trans (by rw[hwn];exact(Below.refl _ _).drew)
              refine⟨_,rfl,hS,?_⟩
              simp only[nz]
              refine hs_t 6 112 (?_) rfl (by kernel_rfl) (by kernel_rfl) (by kernel_rfl) (by rfl) ?_ hS rfl ?_
              rotate_left
              · intro w' hw
                have f7:=(hw.cell (p:=⟨V,7,none⟩) hVs).trans g7;have f5:=(hw.cell (p:=⟨V,5,none⟩) hVs).trans g5;have f6:=(hw.cell (p:=⟨V,6,none⟩) hVs).trans g6;have fx:=(hw.cell (p:=⟨w.heap.size+2,t,none⟩) hXs).trans gx
                go_simp
                try with_reducible rfl
              simp only[nz]
              refine hs_c 8 114 ?_
              refine(za3 e 25 25 rfl (by decide) (by decide) _).mono ?_
              rintro e' wn ⟨rfl,hwn⟩
              have hS:SB wn:=hS.trans (by rw[hwn];exact(Below.refl _ _).drew)
              refine⟨_,rfl,hS,?_⟩
              simp only[nz]
              refine hs_t 9 115 (?_) rfl (by kernel_rfl) (by kernel_rfl) (by kernel_rfl) (by rfl) ?_ hS rfl ?_
              rotate_left
              · intro w' hw
                have f7:=(hw.cell (p:=⟨V,7,none⟩) hVs).trans g7;have f5:=(hw.cell (p:=⟨V,5,none⟩) hVs).trans g5;have f6:=(hw.cell (p:=⟨V,6,none⟩) hVs).trans g6;have fx:=(hw.cell (p:=⟨w.heap.size+2,t,none⟩) hXs).trans gx
                go_simp
                try with_reducible rfl
              simp only[nz]
              refine hs_t 10 116 (?_) rfl (by kernel_rfl) (by kernel_rfl) (by kernel_rfl) (by rfl) ?_ hS rfl ?_
              rotate_left
              · intro w' hw
                have f7:=(hw.cell (p:=⟨V,7,none⟩) hVs).trans g7;have f5:=(hw.cell (p:=⟨V,5,none⟩) hVs).trans g5;have f6:=(hw.cell (p:=⟨V,6,none⟩) hVs).trans g6;have fx:=(hw.cell (p:=⟨w.heap.size+2,t,none⟩) hXs).trans gx
                go_simp
                try with_reducible rfl
              simp only[nz]
              refine hs_t 21 127 (?_) rfl (by kernel_rfl) (by kernel_rfl) (by kernel_rfl) (by rfl) ?_ hS rfl ?_
              rotate_left
              · intro w' hw
                have f7:=(hw.cell (p:=⟨V,7,none⟩) hVs).trans g7;have f5:=(hw.cell (p:=⟨V,5,none⟩) hVs).trans g5;have f6:=(hw.cell (p:=⟨V,6,none⟩) hVs).trans g6;have fx:=(hw.cell (p:=⟨w.heap.size+2,t,none⟩) hXs).trans gx
                go_simp
                try with_reducible rfl
              simp only[nz]
              refine hs_c 23 129 ?_
              refine(zmE t hlt _).mono ?_
              rintro e' wn ⟨rfl,hwn⟩
              have hS:SB wn:=hS.trans (hwn.mono hS.size)
              refine⟨_,rfl,hS,?_⟩
              simp only[nz]
              refine hs_t 24 130 (?_) rfl (by kernel_rfl) (by kernel_rfl) (by kernel_rfl) (by rfl) ?_ hS rfl ?_
              rotate_left
              · intro w' hw
                have f7:=(hw.cell (p:=⟨V,7,none⟩) hVs).trans g7;have f5:=(hw.cell (p:=⟨V,5,none⟩) hVs).trans g5;have f6:=(hw.cell (p:=⟨V,6,none⟩) hVs).trans g6;have fx:=(hw.cell (p:=⟨w.heap.size+2,t,none⟩) hXs).trans gx
                go_simp
                try with_reducible rfl
              simp only[nz]
              refine hs_t 28 134 (?_) rfl (by kernel_rfl) (by kernel_rfl) (by kernel_rfl) (by rfl) ?_ hS rfl ?_
              rotate_left
              · intro w' hw
                have f7:=(hw.cell (p:=⟨V,7,none⟩) hVs).trans g7;have f5:=(hw.cell (p:=⟨V,5,none⟩) hVs).trans g5;have f6:=(hw.cell (p:=⟨V,6,none⟩) hVs).trans g6;have fx:=(hw.cell (p:=⟨w.heap.size+2,t,none⟩) hXs).trans gx
                go_simp
                try with_reducible rfl
              simp only[nz]
              refine hs_t 29 14 (?_) rfl (by kernel_rfl) (by kernel_rfl) (by kernel_rfl) (by rfl) ?_ hS rfl ?_
              rotate_left
              · intro w' hw
                have f7:=(hw.cell (p:=⟨V,7,none⟩) hVs).trans g7;have f5:=(hw.cell (p:=⟨V,5,none⟩) hVs).trans g5;have f6:=(hw.cell (p:=⟨V,6,none⟩) hVs).trans g6;have fx:=(hw.cell (p:=⟨w.heap.size+2,t,none⟩) hXs).trans gx
                go_simp
                try with_reducible rfl
              simp only[nz]
              refine zv (by kernel_rfl) ?_
              go_upto_region 19 with fail
              refine zw (S:=SB) 25 rfl (by kernel_rfl) ?_
              have hS:SB _:=Below.drew hS
              refine hs_t 0 135 (?_) rfl (by kernel_rfl) (by kernel_rfl) (by kernel_rfl) (by rfl) ?_ hS rfl ?_
              rotate_left
              · intro w' hw
                have f1:=(hw.cell (p:=⟨V,1,none⟩) hVs).trans g1;have f2:=(hw.cell (p:=⟨V,2,none⟩) hVs).trans g2
                go_simp
                try with_reducible rfl
              simp only[nz]
              refine hs_t 2 137 (?_) rfl (by kernel_rfl) (by kernel_rfl) (by kernel_rfl) (by rfl) ?_ hS rfl ?_
              rotate_left
              · intro w' hw
                have f1:=(hw.cell (p:=⟨V,1,none⟩) hVs).trans g1;have f2:=(hw.cell (p:=⟨V,2,none⟩) hVs).trans g2
                go_simp
                try with_reducible rfl
              simp only[nz]
              refine hs_t 5 140 (?_) rfl (by kernel_rfl) (by kernel_rfl) (by kernel_rfl) (by rfl) ?_ hS rfl ?_
              rotate_left
              · intro w' hw
                have f1:=(hw.cell (p:=⟨V,1,none⟩) hVs).trans g1;have f2:=(hw.cell (p:=⟨V,2,none⟩) hVs).trans g2
                go_simp
                try with_reducible rfl
              simp only[nz]
              refine hs_t 8 143 (?_) rfl (by kernel_rfl) (by kernel_rfl) (by kernel_rfl) (by rfl) ?_ hS rfl ?_
              rotate_left
              · intro w' hw
                have f1:=(hw.cell (p:=⟨V,1,none⟩) hVs).trans g1;have f2:=(hw.cell (p:=⟨V,2,none⟩) hVs).trans g2
                go_simp
                try with_reducible rfl
              simp only[nz]
              refine hs_t 9 144 (?_) rfl (by kernel_rfl) (by kernel_rfl) (by kernel_rfl) (by rfl) ?_ hS rfl ?_
              rotate_left
              · intro w' hw
                have f1:=(hw.cell (p:=⟨V,1,none⟩) hVs).trans g1;have f2:=(hw.cell (p:=⟨V,2,none⟩) hVs).trans g2
                go_simp
                try with_reducible rfl
              simp only[nz]
              refine hs_t 12 147 (?_) rfl (by kernel_rfl) (by kernel_rfl) (by kernel_rfl) (by rfl) ?_ hS rfl ?_
              rotate_left
              · intro w' hw
                have f1:=(hw.cell (p:=⟨V,1,none⟩) hVs).trans g1;have f2:=(hw.cell (p:=⟨V,2,none⟩) hVs).trans g2
                go_simp
                try with_reducible rfl
              simp only[nz]
              refine hs_t 13 148 (?_) rfl (by kernel_rfl) (by kernel_rfl) (by kernel_rfl) (by rfl) ?_ hS rfl ?_
              rotate_left
              · intro w' hw
                have f1:=(hw.cell (p:=⟨V,1,none⟩) hVs).trans g1;have f2:=(hw.cell (p:=⟨V,2,none⟩) hVs).trans g2
                go_simp
                try with_reducible rfl
              simp only[nz]
              refine hs_t 17 152 (?_) rfl (by kernel_rfl) (by kernel_rfl) (by kernel_rfl) (by rfl) ?_ hS rfl ?_
              rotate_left
              · intro w' hw
                have f1:=(hw.cell (p:=⟨V,1,none⟩) hVs).trans g1;have f2:=(hw.cell (p:=⟨V,2,none⟩) hVs).trans g2
                go_simp
                try with_reducible rfl
              simp only[nz]
              refine hs_t 19 154 (?_) rfl (by kernel_rfl) (by kernel_rfl) (by kernel_rfl) (by rfl) ?_ hS rfl ?_
              rotate_left
              · intro w' hw
                have f1:=(hw.cell (p:=⟨V,1,none⟩) hVs).trans g1;have f2:=(hw.cell (p:=⟨V,2,none⟩) hVs).trans g2
                go_simp
                try with_reducible rfl
              simp only[nz]
              refine hs_t 10 145 (?_) rfl (by kernel_rfl) (by kernel_rfl) (by kernel_rfl) (by rfl) ?_ hS rfl ?_
              rotate_left
              · intro w' hw
                have f1:=(hw.cell (p:=⟨V,1,none⟩) hVs).trans g1;have f2:=(hw.cell (p:=⟨V,2,none⟩) hVs).trans g2
                go_simp
                try with_reducible rfl
              simp only[nz]
              refine hs_t 14 149 (?_) rfl (by kernel_rfl) (by kernel_rfl) (by kernel_rfl) (by rfl) ?_ hS rfl ?_
              rotate_left
              · intro w' hw
                have f1:=(hw.cell (p:=⟨V,1,none⟩) hVs).trans g1;have f2:=(hw.cell (p:=⟨V,2,none⟩) hVs).trans g2
                go_simp
                try with_reducible rfl
              simp only[nz]
              refine hs_t 18 153 (?_) rfl (by kernel_rfl) (by kernel_rfl) (by kernel_rfl) (by rfl) ?_ hS rfl ?_
              rotate_left
              · intro w' hw
                have f1:=(hw.cell (p:=⟨V,1,none⟩) hVs).trans g1;have f2:=(hw.cell (p:=⟨V,2,none⟩) hVs).trans g2
                go_simp
                try with_reducible rfl
              simp only[nz]
              refine hs_t 20 155 (?_) rfl (by kernel_rfl) (by kernel_rfl) (by kernel_rfl) (by rfl) ?_ hS rfl ?_
              rotate_left
              · intro w' hw
                have f1:=(hw.cell (p:=⟨V,1,none⟩) hVs).trans g1;have f2:=(hw.cell (p:=⟨V,2,none⟩) hVs).trans g2
                go_simp
                try with_reducible rfl
              simp only[nz]
              refine hs_t 11 146 (?_) rfl (by kernel_rfl) (by kernel_rfl) (by kernel_rfl) (by rfl) ?_ hS rfl ?_
              rotate_left
              · intro w' hw
                have f1:=(hw.cell (p:=⟨V,1,none⟩) hVs).trans g1;have f2:=(hw.cell (p:=⟨V,2,none⟩) hVs).trans g2
                go_simp
                try with_reducible rfl
              simp only[nz]
              refine hs_t 15 150 (?_) rfl (by kernel_rfl) (by kernel_rfl) (by kernel_rfl) (by rfl) ?_ hS rfl ?_
              rotate_left
              · intro w' hw
                have f1:=(hw.cell (p:=⟨V,1,none⟩) hVs).trans g1;have f2:=(hw.cell (p:=⟨V,2,none⟩) hVs).trans g2
                go_simp
                try with_reducible rfl
              simp only[nz]
              refine hs_t 21 156 (?_) rfl (by kernel_rfl) (by kernel_rfl) (by kernel_rfl) (by rfl) ?_ hS rfl ?_
              rotate_left
              · intro w' hw
                have f1:=(hw.cell (p:=⟨V,1,none⟩) hVs).trans g1;have f2:=(hw.cell (p:=⟨V,2,none⟩) hVs).trans g2
                go_simp
                try with_reducible rfl
              simp only[nz]
              refine hs_t 16 151 (?_) rfl (by kernel_rfl) (by kernel_rfl) (by kernel_rfl) (by rfl) ?_ hS rfl ?_
              rotate_left
              · intro w' hw
                have f1:=(hw.cell (p:=⟨V,1,none⟩) hVs).trans g1;have f2:=(hw.cell (p:=⟨V,2,none⟩) hVs).trans g2
                go_simp
                try with_reducible rfl
              simp only[nz]
              refine hs_t 22 157 (?_) rfl (by kernel_rfl) (by kernel_rfl) (by kernel_rfl) (by rfl) ?_ hS rfl ?_
              rotate_left
              · intro w' hw
                have f1:=(hw.cell (p:=⟨V,1,none⟩) hVs).trans g1;have f2:=(hw.cell (p:=⟨V,2,none⟩) hVs).trans g2
                go_simp
                try with_reducible rfl
              simp only[nz]
              refine hs_c 1 136 ?_
              refine(za3 a 2 2 rfl (by decide) (by decide) _).mono ?_
              rintro e' wn ⟨rfl,hwn⟩
              have hS:SB wn:=hS.trans (by rw[hwn];exact(Below.refl _ _).drew)
              refine⟨_,rfl,hS,?_⟩
              simp only[nz]
              refine hs_c 3 138 ?_
              refine(za3 a 13 13 rfl (by decide) (by decide) _).mono ?_
              rintro e' wn ⟨rfl,hwn⟩
              have hS:SB wn:=hS.trans (by rw[hwn];exact(Below.refl _ _).drew)
              refine⟨_,rfl,hS,?_⟩
              simp only[nz]
              refine hs_t 4 139 (?_) rfl (by kernel_rfl) (by kernel_rfl) (by kernel_rfl) (by rfl) ?_ hS rfl ?_
              rotate_left
              · intro w' hw
                have f1:=(hw.cell (p:=⟨V,1,none⟩) hVs).trans g1;have f2:=(hw.cell (p:=⟨V,2,none⟩) hVs).trans g2
                go_simp
                try with_reducible rfl
              simp only[nz]
              refine hs_c 6 141 ?_
              refine(za3 a 22 22 rfl (by decide) (by decide) _).mono ?_
              rintro e' wn ⟨rfl,hwn⟩
              have hS:SB wn:=hS.trans (by rw[hwn];exact(Below.refl _ _).drew)
              refine⟨_,rfl,hS,?_⟩
              simp only[nz]
              refine hs_t 7 142 (?_) rfl (by kernel_rfl) (by kernel_rfl) (by kernel_rfl) (by rfl) ?_ hS rfl ?_
              rotate_left
              · intro w' hw
                have f1:=(hw.cell (p:=⟨V,1,none⟩) hVs).trans g1;have f2:=(hw.cell (p:=⟨V,2,none⟩) hVs).trans g2
                go_simp
                try with_reducible rfl
              simp only[nz]
              refine hs_t 23 158 (?_) rfl (by kernel_rfl) (by kernel_rfl) (by kernel_rfl) (by rfl) ?_ hS rfl ?_
              rotate_left
              · intro w' hw
                have f1:=(hw.cell (p:=⟨V,1,none⟩) hVs).trans g1;have f2:=(hw.cell (p:=⟨V,2,none⟩) hVs).trans g2
                go_simp
                try with_reducible rfl
              simp only[nz]
              refine hs_t 24 15 (?_) rfl (by kernel_rfl) (by kernel_rfl) (by kernel_rfl) (by rfl) ?_ hS rfl ?_
              rotate_left
              · intro w' hw
                have f1:=(hw.cell (p:=⟨V,1,none⟩) hVs).trans g1;have f2:=(hw.cell (p:=⟨V,2,none⟩) hVs).trans g2
                go_simp
                try with_reducible rfl
              simp only[nz]
              refine zv (by kernel_rfl) ?_
              go_upto_region 20 with fail
              go_name_world w4 hw4
              have hS4:Below wr.heap.size wr w4:=by rw[←hw4];exact hS
              clear hw4 hS
              have f1:=(hS4.cell (p:=⟨V,1,none⟩) hVs).trans g1
              have f2:=(hS4.cell (p:=⟨V,2,none⟩) hVs).trans g2
              have f3:=(hS4.cell (p:=⟨V,3,none⟩) hVs).trans g3
              have f5:=(hS4.cell (p:=⟨V,5,none⟩) hVs).trans g5
              have f6:=(hS4.cell (p:=⟨V,6,none⟩) hVs).trans g6
              have hTV4:=zg hTV hS4 hVs
              have hK4:=hK.below hS4
              have hV4:V<w4.heap.size:=Nat.lt_of_lt_of_le hVs hS4.size
              have A5:=zbJ T1 T2
              have A6:=zbJ d T1
              obtain⟨T3,hT3⟩:∃T3,Hid (T1+T2=T3):=⟨_,rfl⟩
              obtain⟨T4,hT4⟩:∃T4,Hid (d+T1=T4):=⟨_,rfl⟩
              rw[hT3.out]at A5
              rw[hT4.out]at A6
              clear X1 X2 A1 C1 C2 C3 C4 A2 A3 A4 Y1 Y2 D1 D2 D3 D4 D5 D6 g0 g1 g2 g3 g4 g5 g6 g7 gx hK hV hTV
              have HNX:Hid (rounds ws (t+1) s=⟨T3,a,b',c,T4,e,f,g⟩):=by
                show _=_
                rw[hnx.out,hr.out,hT3.out,hT4.out]
              clear hT1 hT2 hr hnx hst hT3 hT4
              obtain⟨q0,hq0⟩:=Option.isSome_iff_exists.1 (hTV4 0 (by omega)).1
              have hz0:=(hTV4 0 (by omega)).2
              obtain⟨q1,hq1⟩:=Option.isSome_iff_exists.1 (hTV4 1 (by omega)).1
              have hz1:=(hTV4 1 (by omega)).2
              obtain⟨q2,hq2⟩:=Option.isSome_iff_exists.1 (hTV4 2 (by omega)).1
              have hz2:=(hTV4 2 (by omega)).2
              obtain⟨q3,hq3⟩:=Option.isSome_iff_exists.1 (hTV4 3 (by omega)).1
              have hz3:=(hTV4 3 (by omega)).2
              obtain⟨q4,hq4⟩:=Option.isSome_iff_exists.1 (hTV4 4 (by omega)).1
              have hz4:=(hTV4 4 (by omega)).2
              obtain⟨q5,hq5⟩:=Option.isSome_iff_exists.1 (hTV4 5 (by omega)).1
              have hz5:=(hTV4 5 (by omega)).2
              obtain⟨q6,hq6⟩:=Option.isSome_iff_exists.1 (hTV4 6 (by omega)).1
              have hz6:=(hTV4 6 (by omega)).2
              obtain⟨q7,hq7⟩:=Option.isSome_iff_exists.1 (hTV4 7 (by omega)).1
              have hz7:=(hTV4 7 (by omega)).2
              simp only[Nat.zero_add]at hq0 hq1 hq2 hq3 hq4 hq5 hq6 hq7 hz0 hz1 hz2 hz3 hz4 hz5 hz6 hz7
              go_upto_region 15 with fail
              go_name_world w5 hw5
              have e5:w4.setCells V 0 (v32 (list ⟨T3,a,b',c,T4,e,f,g⟩))=w5:=hw5
              have hK5:Bk w w5 cs ws:=by rw[←e5];exact hK4.past hVw _
              have hV5:w5.rangeAt V 0 (v32 (list ⟨T3,a,b',c,T4,e,f,g⟩)):=by rw[←e5];exact World.rangeAt_setCells_same w4 V 0 _ hTV4
              have hT5:w5.there V 0 8:=by rw[←e5];exact World.there_setCells hTV4 _ _ _
              have hs5:V<w5.heap.size:=by rw[←e5,zB];exact hV4
              clear hw5 e5 hq0 hq1 hq2 hq3 hq4 hq5 hq6 hq7 hz0 hz1 hz2 hz3 hz4 hz5 hz6 hz7 f1 f2 f3 f5 f6 A5 A6 hK4 hTV4 hV4 hS4
              go_wp2_with fail
              go_roundw
              case rel=>exact⟨t+1,_,by omega,by go_num,HNX,hK5,hV5,hT5,hs5⟩
              case measure=>simp[intOf];omega
            · have hlt':¬(t:Int)<64:=by omega
              have hbox:=hK.box
              rw[←hcs0.out]at hbox
              have hbel:=hK.bel
              have htb:=hK.tb
              have htr:=hK.tr
              have hVw2:w.heap.size+1<V:=by omega
              clear hK hVw
              go_wp2_with fail
              go_loopw [16] (fun i wr=>∃j:Nat,j≤8∧i=.int .i64 (j:Int)∧wr.rangeAt w.heap.size 0 (v32 (mix s ⟨a,b',c,d,e,f,g,hh⟩ j))∧wr.there w.heap.size 0 8∧wr.there (w.heap.size+1) 0 8∧wr.rangeAt V 0 (v32 (list ⟨a,b',c,d,e,f,g,hh⟩))∧Below w.heap.size w wr) (fun i _=>8 - (intOf i).toNat)
              case atStart=>exact⟨0,by omega,rfl,hbox,htb,htr,hV,hbel⟩
              case round=>
                clear hbox htb htr hV hbel hTV
                obtain⟨j,hj,rfl,hbox,htb,htr,hV,hbel⟩:=hrel
                by_cases hl8:j<8
                · obtain⟨x,y,gx,gy,hmx⟩:=zkQ (wr:=wr) s a b' c d e f g hh j hl8 hbox hV
                  have hf:=(htb j hl8).2
                  rw[Nat.zero_add]at hf
                  have hxl:=x.isLt
                  have hyl:=y.isLt
                  go_wp2_with fail
                  go_region
                  go_wp2_with fail
                  rw[zbJ]
                  go_roundw
                  case rel=>
                    refine⟨j+1,by omega,by go_num,?_,(World.there_drew _ _ _ _).2 (zP htb _ _),(World.there_drew _ _ _ _).2 (zP htr _ _),(World.rangeAt_drew _ _ _ _).2 (zaI hV _ _ (fun e=>absurd e (by show w.heap.size≠V;omega))),(hbel.setCell (p:=⟨w.heap.size,j,none⟩) (Nat.le_refl _) _).drew⟩
                    have:=zaa hbox j (.int .u32 ((y+x).toNat:Int))
                    rw[Nat.zero_add,zb6,hmx.out]at this
                    exact(World.rangeAt_drew _ _ _ _).2 this
                  case measure=>simp[intOf];omega
                · have hj8:j=8:=by omega
                  have hj':¬(j:Int)<8:=by omega
                  have hres:Hid (v32 (list (plus s (rounds ws 64 s)))=v32 (mix s ⟨a,b',c,d,e,f,g,hh⟩ j)):=by
                    have ht64:t=64:=by omega
                    have e1:=hst.out
                    rw[ht64]at e1
                    rw[e1,hj8];rfl
                  obtain⟨rs,hrs0⟩:∃rs,Hid (v32 (mix s ⟨a,b',c,d,e,f,g,hh⟩ j)=rs):=⟨_,rfl⟩
                  have hrl:rs.length=8:=by rw[←hrs0.out,hj8];rfl
                  have h1r:∀v∈rs,v.oneCell'=true:=by rw[←hrs0.out];exact zbg _
                  rw[hrs0.out]at hbox
                  have HRES:Hid (v32 (list (plus s (rounds ws 64 s)))=rs):=by rw[←hrs0.out];exact hres
                  have hi:(prog.info? 168).map (·.size)=some rs.length:=by rw[hrl];exact zco
                  clear hres hst hV hj8 hrs0
                  go_upto_region 25 with fail
                  refine wp_region_list ?_
                  refine wpList_load_mid rfl 168 _ rfl _ _ rfl rs _ hbox underlying168 rfl hi ?_
                  refine wpList_store_mid rfl 168 _ _ rfl _ _ rs.toArray rfl rfl (by simpa [hrl]using htr) (by simpa using hi) (all_oneCell_toArray h1r) ?_
                  have hRr:=World.rangeAt_setCells_same wr (w.heap.size+1) 0 rs (by rw[hrl];exact htr)
                  have hBl:=zi (Nat.le_succ w.heap.size) rs 0 wr hbel
                  generalize wr.setCells (w.heap.size+1) 0 rs=wx at *
                  have hrs:=run_loadVar_mid (P:=prog) wx (w.heap.size+1) 0 168 rs _ hRr underlying168 rfl hi
                  clear hi
                  go_wp2_with fail
                  refine bodyPost_ret (v:=.agg rs.toArray) (by simp[results,results148,asAddr,hrs]) rfl ⟨by rw[HRES.out],hBl⟩
theorem zm9 (s:St) (b off cap:Nat) (bs:List Int) (w:World) (hlen:bs.length=64) (hb:∀z∈bs,0≤z∧z<256) (hB:b<w.heap.size) (hc:w.rangeAt b off (v8 bs)):
   Calls prog 148 #[.agg (v32 (list s)).toArray,.slice (some ⟨b,off,none⟩) 64 cap] w fun e w'=>e=.returned (.agg (v32 (list (Sha.block s bs))).toArray)∧Below w.heap.size w w':=
  zm8 s b off cap bs (spread bs) w 48 rfl rfl hlen hb hB hc
theorem zf3 {w:World} {b o:Nat} {cs old rest vs:List Value} (h:w.rangeAt b o (cs++old++rest)) (hl:old.length=vs.length) (ht:w.there b (o+cs.length) vs.length):(w.setCells b (o+cs.length) vs).rangeAt b o (cs++vs++rest):=by
 have q1:=zI (zI h)
 have q2:=zO h
 refine za4 (za4 (World.rangeAt_setCells_apart q1 _ _ _ (Or.inr (Or.inl (Nat.le_refl _)))) (World.rangeAt_setCells_same w b _ vs ht)) ?_
 have q3:=World.rangeAt_setCells_apart q2 b (o+cs.length) vs (Or.inr (Or.inr (by simp[hl];omega)))
 simp only[List.length_append,hl]at q3 ⊢
 exact q3
theorem zdC {w w':World} {R b o n:Nat} (h:w.there b o n) (g:w.grownBy w' (some R)) (hb:b<w.heap.size) (hn:b≠R):w'.there b o n:=fun j hj=>by
 obtain⟨h1,h2⟩:=h j hj
 obtain⟨u,hu⟩:=Option.isSome_iff_exists.1 h1
 refine⟨by rw[g.cell hu (by simpa using hn)];rfl,?_⟩
 rw[World.frozen?_of_block (w:=w) (g.block b hb (by simpa using hn))];exact h2
theorem zlI {w wr:World} {r:Option Nat} {D:Nat} (h:w.grownBy wr r) (hD:w.heap.size≤D) (o:Nat) (v:Value):w.grownBy (wr.setCell ⟨D,o,none⟩ v) r:=
 ⟨h.os,h.tape,h.output,by simpa using h.size,fun k hk hr=>(Below.heap_setCell wr ⟨D,o,none⟩ v k (by show k≠D;omega)).trans (h.block k hk hr)⟩
theorem zek {w:World} {r:Option Nat} {D:Nat} (hD:w.heap.size≤D):∀(vs:List Value) (o:Nat) (wr:World),w.grownBy wr r→w.grownBy (wr.setCells D o vs) r
  |[],_,_,h=>h
  |v::vs,o,_,h=>zek hD vs (o+1) _ (zlI h hD o v)
namespace Sha
theorem zfD (xs:List Int) (n:Nat) (x:Int) (hn:0<n):(xs++List.replicate n (0:Int)).set xs.length x=(xs++[x])++List.replicate (n - 1) (0:Int):=by
 obtain⟨m,rfl⟩:∃m,n=m+1:=⟨n - 1,by omega⟩
 simp[List.replicate_succ]
def s8at (N i:Nat):Int:=((N / 2^(56 - 8*i)%256:Nat):Int)
theorem zb9 (N:Nat):(zaG N).length=8:=by simp[zaG]
theorem zfs (N k:Nat) (hk:k<8):(zaG N).take (k+1)=(zaG N).take k++[s8at N k]:=by
 rw[List.take_succ_eq_append_getElem (by rw[zb9];exact hk)]
 simp[zaG,s8at]
theorem zi2 (N:Nat):∀z∈zaG N,0≤z∧z<256:=by
 intro z hz
 obtain⟨i,_,rfl⟩:=List.mem_map.1 hz
 omega
theorem zfi (n:Nat):∀z∈tail n,0≤z∧z<256:=by
 intro z hz
 unfold tail at hz
 rcases List.mem_cons.1 hz with rfl|hz
 ·decide
 ·rcases List.mem_append.1 hz with hz|hz
  ·obtain⟨_,rfl⟩:=List.mem_replicate.1 hz;decide
  ·exact zi2 _ z hz
theorem zdK (n:Nat):(tail n).length=9+(119 - n%64)%64:=by
 simp[tail,zb9];omega
theorem zfx (n k:Nat):8*(n:Int) / 2^(56 - 8*k)%256=s8at (8*n) k:=by
 unfold s8at
 simp
def outb (xs:List Wd):List Int:=xs.flatMap four
theorem zbH (s:St):bytes s=outb (list s):=rfl
theorem zgi (xs:List Wd) (x:Wd):outb (xs++[x])=outb xs++four x:=by simp[outb]
theorem zbW (xs:List Wd):(outb xs).length=4*xs.length:=by
  induction xs with
  |nil=>rfl
  |cons x r ih=>
    have:outb (x::r)=four x++outb r:=by simp[outb]
    rw[this,List.length_append,ih];simp[four];omega
theorem zlM (x:Wd):∀z∈four x,0≤z∧z<256:=by
 intro z hz
 simp only[four,List.mem_cons,List.not_mem_nil,or_false]at hz
 rcases hz with rfl|rfl|rfl|rfl<;>unfold Sha.byteOf<;>omega
theorem zkv (xs:List Wd):∀z∈outb xs,0≤z∧z<256:=by
 intro z hz
 obtain⟨x,_,hx⟩:=List.mem_flatMap.1 hz
 exact zlM x z hx
theorem zlX (p:St ×List Int) (z:Int) (h:p.2.length<64):(feed p z).2.length=(p.2.length+1)%64∧(feed p z).2.length<64:=by
 unfold feed
 by_cases e:p.2.length=63
 ·rw[if_pos e];simp[e]
 ·rw[if_neg e];simp;omega
theorem zlV (zs:List Int) (p:St ×List Int) (h:p.2.length<64):(feeds p zs).2.length=(p.2.length+zs.length)%64∧(feeds p zs).2.length<64:=by
  induction zs generalizing p with
  |nil=>simp[feeds];omega
  |cons z r ih=>
    have e:feeds p (z::r)=feeds (feed p z) r:=rfl
    obtain⟨h1,h2⟩:=zlX p z h
    obtain⟨h3,h4⟩:=ih (feed p z) h2
    rw[e]
    refine⟨?_,h4⟩
    rw[h3,h1];simp;omega
end Sha
theorem idx8 (s:St) (j:Nat) (hj:j<8):∃x,(list s).take (j+1)=(list s).take j++[x]∧∀w,(Instr.index 168 (.agg (v32 (list s)).toArray) (.int .i64 (j:Int))).run prog w=.ok (.int .u32 (x.toNat:Int)) w:=by
  match j,hj with
  |0,_=>exact⟨s.a,rfl,fun _=>by kernel_rfl⟩
  |1,_=>exact⟨s.b,rfl,fun _=>by kernel_rfl⟩
  |2,_=>exact⟨s.c,rfl,fun _=>by kernel_rfl⟩
  |3,_=>exact⟨s.d,rfl,fun _=>by kernel_rfl⟩
  |4,_=>exact⟨s.e,rfl,fun _=>by kernel_rfl⟩
  |5,_=>exact⟨s.f,rfl,fun _=>by kernel_rfl⟩
  |6,_=>exact⟨s.g,rfl,fun _=>by kernel_rfl⟩
  |7,_=>exact⟨s.h,rfl,fun _=>by kernel_rfl⟩
theorem zbm:(prog.info? 41).map (·.size)=some 32:=by kernel_rfl
theorem zgT:(prog.info? 168).map (·.size)=some 8:=by kernel_rfl
theorem zaq (w:World) (n:Nat) (t:TypeId):(w.alloc (.cells (Array.replicate n (.int .u8 0)) t)).rangeAt w.heap.size 0 (v8 (List.replicate n (0:Int)))∧(w.alloc (.cells (Array.replicate n (.int .u8 0)) t)).there w.heap.size 0 n:=by
 have h1:=zC w (Array.replicate n (.int .u8 0)) t
 have h2:=zE w (Array.replicate n (.int .u8 0)) t
 exact⟨by simpa [v8]using h1,by simpa using h2⟩
theorem Run.below {w w':World} {R:Nat} {s:St} {wait:List Int} {n:Nat} (h:Run w R s wait n) (hb:Below w.heap.size w w'):Run w' R s wait n:=by
 obtain⟨h1,h2,h3,h4,h5,h6,⟨junk,h7,h8⟩,h9,h10,h11⟩:=h
 exact⟨h1,Nat.lt_of_lt_of_le h2 hb.size,zg h3 hb h2,za h4 hb h2,h5,h6,⟨junk,h7,za h8 hb h2⟩,(hb.cell (p:=⟨R,72,none⟩) h2).trans h9,(hb.cell (p:=⟨R,73,none⟩) h2).trans h10,za h11 hb (by omega)⟩
namespace Sha
def pre (fill N k:Nat):List Int:=((128:Int)::List.replicate (fill - 1) 0)++(zaG N).take k
theorem zkc (fill N k:Nat) (hf:1≤fill) (hk:k≤8):(pre fill N k).length=fill+k:=by
 simp[pre,zb9];omega
theorem zkb (fill N k:Nat) (hk:k<8):pre fill N (k+1)=pre fill N k++[s8at N k]:=by
 unfold pre;rw[zfs N k hk,List.append_assoc]
theorem zka (n fill:Nat) (h:fill=1+(119 - n%64)%64):pre fill (8*n) 8=Sha.tail n:=by
 unfold pre Sha.tail
 rw[List.take_of_length_le (by rw[zb9];omega),h]
 simp
end Sha
theorem zmh (R:Nat) (s:St) (wait:List Int) (n:Nat) (w:World) (h:Run w R s wait n) (hh:wait.length=n%64) (hn:n<1152921504606846976):
   Calls prog 104 #[.pointer (some ⟨R,0,none⟩)] w fun e w'=>e=.returned (.agg (v8 (Sha.bytes (feeds (s,wait) (Sha.tail n)).1)).toArray)∧w.grownBy w' (some R):=by
  have hc:=h.count
  have hd:=h.held
  have few:=h.few
  have hRs:=h.lt
  obtain⟨fill,hfill,hfi⟩:∃fill:Nat,Hid (fill=1+(119 - n%64)%64)∧(64:Int) - ((wait.length:Int)+8)%64=(fill:Int):=⟨1+(119 - n%64)%64,rfl,by rw[hh];omega⟩
  have hf1:1≤fill:=by rw[hfill.out];omega
  have hf2:fill≤64:=by rw[hfill.out];omega
  have HH:Hid (wait.length=n%64):=hh
  have hz:∀w,(zeroValue 215).run prog w=.ok (.agg (Array.replicate 72 (.int .u8 0))) w:=fun _=>by kernel_rfl
  clear hh
  go_enter func104,ntmps104
  go_upto_region 4 with fail
  go_name_world w1 hw1
  obtain⟨hB1,hZ,hT,hT0,hz1⟩:Below w.heap.size w w1∧w1.rangeAt (w.heap.size+1) 0 (v8 (List.replicate 72 (0:Int)))∧w1.there (w.heap.size+1) 0 72∧w1.there w.heap.size 0 32∧w1.heap.size=w.heap.size+2:=by
    have q:=zaq (w.alloc (.cells (Array.replicate 32 (.int .u8 0)) 41)) 72 215
    have q2:=World.there_alloc (zaq w 32 41).2 (.cells (Array.replicate 72 (.int .u8 0)) 215)
    have es:(w.alloc (.cells (Array.replicate 32 (.int .u8 0)) 41)).heap.size=w.heap.size+1:=by simp
    have hB:Below w.heap.size w ((w.alloc (.cells (Array.replicate 32 (.int .u8 0)) 41)).alloc (.cells (Array.replicate 72 (.int .u8 0)) 215)):=((Below.refl _ _).alloc (Nat.le_refl _) _).alloc (by simp) _
    have hs:((w.alloc (.cells (Array.replicate 32 (.int .u8 0)) 41)).alloc (.cells (Array.replicate 72 (.int .u8 0)) 215)).heap.size=w.heap.size+2:=by simp
    rw[es]at q
    rw[show(w.alloc (.cells (Array.replicate 32 (.int .u8 0)) 41)).alloc (.cells (Array.replicate 72 (.int .u8 0)) 215)=w1 from hw1]at q q2 hB hs
    exact⟨hB,q.1,q.2,q2,hs⟩
  clear hw1 hz hc hd few hfi
  obtain⟨u0,hu0⟩:=Option.isSome_iff_exists.1 (hT 0 (by omega)).1
  have hf0:=(hT 0 (by omega)).2
  rw[Nat.add_zero]at hu0 hf0
  go_wp2_with fail
  have hZ0:=zaa hZ 0 (.int .u8 128)
  rw[zb5]at hZ0
  have hS0:(List.replicate 72 (0:Int)).set 0 128=Sha.pre fill (8*n) 0++List.replicate (72 - fill - 0) (0:Int):=by
    unfold Sha.pre
    rw[List.take_zero,List.append_nil,List.cons_append,List.replicate_append_replicate,show fill - 1+(72 - fill - 0)=71 by omega]
    rfl
  rw[hS0]at hZ0
  have hT1:=zP hT ⟨w.heap.size+1,0,none⟩ (.int .u8 128)
  have hT2:=zP hT0 ⟨w.heap.size+1,0,none⟩ (.int .u8 128)
  have hB2:=hB1.setCell (p:=⟨w.heap.size+1,0,none⟩) (by simp) (.int .u8 128)
  have hz2:(w1.setCell ⟨w.heap.size+1,0,none⟩ (.int .u8 128)).heap.size=w.heap.size+2:=by simpa using hz1
  clear hS0 hu0 hf0 hT hT0 hB1 hZ
  go_loopw [23] (fun i wr=>∃k:Nat,k≤8∧i=.int .i64 (k:Int)∧wr.rangeAt (w.heap.size+1) 0 (v8 (Sha.pre fill (8*n) k++List.replicate (72 - fill - k) (0:Int)))∧wr.there (w.heap.size+1) 0 72∧wr.there w.heap.size 0 32∧Below w.heap.size w wr∧wr.heap.size=w.heap.size+2) (fun i _=>8 - (intOf i).toNat)
  case atStart=>exact⟨0,by omega,rfl,hZ0,hT1,hT2,hB2,hz2⟩
  case round=>
    clear hZ0 hT1 hT2 hB2 hz2
    obtain⟨k,hk,rfl,hZ,hT,hT0,hB,hsz⟩:=hrel
    by_cases hlt:k<8
    · obtain⟨u,hu⟩:=Option.isSome_iff_exists.1 (hT (fill+k) (by omega)).1
      have hf:=(hT (fill+k) (by omega)).2
      rw[Nat.zero_add]at hu hf
      go_wp2_with fail
      rw[zfx]
      go_roundw
      case rel=>
        refine⟨k+1,by omega,by go_num,?_,zP hT _ _,zP hT0 _ _,hB.setCell (p:=⟨w.heap.size+1,fill+k,none⟩) (by simp) _,by simpa using hsz⟩
        have:=zaa hZ (fill+k) (.int .u8 (s8at (8*n) k))
        rw[Nat.zero_add,zb5]at this
        have e1:=zfD (Sha.pre fill (8*n) k) (72 - fill - k) (s8at (8*n) k) (by omega)
        rw[zkc _ _ _ hf1 hk]at e1
        rw[e1]at this
        rw[zkb _ _ _ hlt]
        exact this
      case measure=>simp[intOf];omega
    · obtain rfl:k=8:=by omega
      rw[zka n fill hfill.out]at hZ
      have hlt:(Sha.tail n).length=fill+8:=by rw[zdK,hfill.out];omega
      have hrow:RowAt wr (some ⟨w.heap.size+1,0,none⟩) (Sha.tail n):=⟨by rw[hlt];unfold maxLen;omega,zfi n,Or.inr ⟨_,_,rfl,by omega,by rw[zS]at hZ;exact zI hZ⟩⟩
      have hRun:=h.below hB
      have ca:=zhW R s wait n (some ⟨w.heap.size+1,0,none⟩) 72 (Sha.tail n) wr hRun hrow (by omega) (by unfold maxLen;omega) (Or.inr (fun x hx=>by cases hx;simp;omega)) (by omega)
      rw[hlt]at ca
      have hsl:=zfr (w:=wr) underlying215 isz8 (w.heap.size+1) 0 (fill+8) ((fill:Int)+8) (by omega) (by omega) (by omega)
      obtain⟨p,hp⟩:∃p,Hid (feeds (s,wait) (Sha.tail n)=p):=⟨_,rfl⟩
      rw[hp.out]at ca
      clear hZ hT hrow hRun hlt hfill
      go_wp2_with fail
      refine ca.mono ?_
      rintro e w2 ⟨rfl,hR2,hg2⟩
      clear ca hsl
      have hs2:=hg2.size
      have hT2:w2.there w.heap.size 0 32:=zdC hT0 hg2 (by omega) (by omega)
      have hgw:w.grownBy w2 (some R):=zJ (zba hB _) hg2
      have hW2:=hR2.wds
      have hR2lt:=hR2.lt
      obtain⟨r,hr⟩:∃r,Hid (p.1=r):=⟨_,rfl⟩
      rw[hr.out]at hW2
      have hDw:w.heap.size<w2.heap.size:=by omega
      clear hR2 hT0 hB hsz hg2 h
      have q:=zaq w2 32 41
      have hW3:=World.rangeAt_alloc hW2 (.cells (Array.replicate 32 (.int .u8 0)) 41)
      have hT3:=World.there_alloc hT2 (.cells (Array.replicate 32 (.int .u8 0)) 41)
      have hg3:w.grownBy (w2.alloc (.cells (Array.replicate 32 (.int .u8 0)) 41)) (some R):=zJ hgw (World.grownBy_alloc _ _ _)
      have hi8:(prog.info? 168).map (·.size)=some (v32 (list r)).length:=by rw[v32_length];exact zgT
      go_wp2_with (refine wpList_load_mid rfl 168 _ rfl R 0 rfl (v32 (list r)) _ hW3 underlying168 rfl hi8 ?_)
      go_name_world w3 hw3
      rw[show w2.alloc (.cells (Array.replicate 32 (.int .u8 0)) 41)=w3 from hw3]at q hT3 hg3
      obtain⟨hZ3,hN3⟩:=q
      clear hw3 hW3 hi8 hW2 hgw hT2
      have hDR:w2.heap.size≠R:=by omega
      generalize w2.heap.size=D at hZ3 hN3 hDR hDw ⊢
      clear hs2 hR2lt
      go_loopw [46] (fun i wr=>∃j:Nat,j≤8∧i=.int .i64 (j:Int)∧wr.rangeAt D 0 (v8 (outb ((list r).take j)++List.replicate (32 - 4*j) (0:Int)))∧wr.there D 0 32∧wr.there w.heap.size 0 32∧w.grownBy wr (some R)) (fun i _=>8 - (intOf i).toNat)
      case atStart=>exact⟨0,by omega,rfl,hZ3,hN3,hT3,hg3⟩
      case round=>
        clear hZ3 hN3 hT3 hg3
        obtain⟨j,hj,rfl,hZ,hT,hT0,hg⟩:=hrel
        by_cases hl8:j<8
        · obtain⟨x,hx,hix⟩:=idx8 r j hl8
          have HXX:Hid ((list r).take (j+1)=(list r).take j++[x]):=hx
          clear hx
          have hth:wr.there D (4*j) 4:=by
            have:=zL hT (4*j) 4 (by omega)
            rwa [Nat.zero_add]at this
          have cp:=zj8 D (4*j) (32 - 4*j) (32 - 4*j) x wr (by omega) (by omega) hth
          have hsl:=zdN (w:=wr) underlying41 isz8 D 0 (4*j) (4*(j:Int)) (by omega) (by omega)
          rw[Nat.zero_add]at hsl
          go_wp2_with fail
          refine cp.mono ?_
          rintro e w4 ⟨rfl,rfl⟩
          clear cp hsl hix
          go_wp2_with fail
          go_roundw
          case rel=>
            refine⟨j+1,by omega,by go_num,?_,World.there_setCells hT _ _ _,World.there_setCells hT0 _ _ _,zek (by omega) _ _ _ hg⟩
            rw[HXX.out,zgi]
            have hol:(outb ((list r).take j)).length=4*j:=by rw[zbW,List.length_take];simp[list];omega
            have e0:List.replicate (32 - 4*j) (0:Int)=List.replicate 4 (0:Int)++List.replicate (32 - 4*(j+1)) (0:Int):=by
              rw[List.replicate_append_replicate];congr 1;omega
            rw[e0,←List.append_assoc,zS,zS]at hZ
            have:=zf3 (vs:=v8 (four x)) hZ (by simp[four]) (by rw[v8_length,hol,Nat.zero_add];exact hth)
            rw[v8_length,hol,Nat.zero_add,←zS,←zS]at this
            exact this
          case measure=>simp[intOf];omega
        · obtain rfl:j=8:=by omega
          have hZ8:wr.rangeAt D 0 (v8 (Sha.bytes r)):=by
            have e8:(list r).take 8=list r:=rfl
            rw[e8]at hZ
            simpa [zbH]using hZ
          have hbl:(v8 (Sha.bytes r)).length=32:=by rw[v8_length,zbH,zbW];rfl
          have h1c:=zy (Sha.bytes r)
          obtain⟨cs,hcs⟩:∃cs,Hid (v8 (Sha.bytes r)=cs):=⟨_,rfl⟩
          rw[hcs.out]at hZ8 hbl h1c
          have hi:(prog.info? 41).map (·.size)=some cs.length:=by rw[hbl];exact zbm
          go_upto_region 17 with fail
          refine wp_region_list ?_
          refine wpList_load_mid rfl 41 _ rfl _ _ rfl cs _ hZ8 underlying41 rfl hi ?_
          refine wpList_store_mid rfl 41 _ _ rfl _ _ cs.toArray rfl rfl (by simpa [hbl]using hT0) (by simpa using hi) (all_oneCell_toArray h1c) ?_
          have hRr:=World.rangeAt_setCells_same wr w.heap.size 0 cs (by rw[hbl];exact hT0)
          have hgl:=zek (Nat.le_refl _) cs 0 wr hg
          generalize wr.setCells w.heap.size 0 cs=wx at *
          have hrs:=run_loadVar_mid (P:=prog) wx w.heap.size 0 41 cs _ hRr underlying41 rfl hi
          clear hi
          go_wp2_with fail
          refine bodyPost_ret (v:=.agg cs.toArray) (by simp[results,results104,Act.put,asAddr,hrs]) rfl ⟨by rw[hp.out,hr.out,hcs.out],hgl⟩
open Go.RowKit
open Sha
def Glob (w:World):Prop:=w.rangeAt 0 0 (v32 (list init))∧w.rangeAt 1 0 (v32 kl)∧2≤w.heap.size
theorem Glob.below {w w':World} (h:Glob w) (hb:Below w.heap.size w w'):Glob w':=
 ⟨za h.1 hb (by have:=h.2.2;omega),za h.2.1 hb (by have:=h.2.2;omega),Nat.le_trans h.2.2 hb.size⟩
def vinit:List Value:=v32 (list init)++v8 (List.replicate 64 (0:Int))++[.int .i64 0,.int .u64 0]
theorem zgS:(prog.info? 172).map (·.size)=some 74:=by kernel_rfl
theorem zfc:∀v∈vinit,v.oneCell'=true:=by
 intro v hv
 rcases List.mem_append.1 hv with hv|hv
 ·rcases List.mem_append.1 hv with hv|hv
  ·exact zbg _ v hv
  ·exact zy _ v hv
 ·simp at hv
  rcases hv with rfl|rfl<;>rfl
def vzero:List Value:=v32 (List.replicate 8 (0:Wd))++v8 (List.replicate 64 (0:Int))++[.int .i64 0,.int .u64 0]
theorem zeN (w:World):(zeroValue 172).run prog w=.ok (.agg vzero.toArray) w:=by kernel_rfl
theorem zgD (w:World):(w.alloc (.cells vzero.toArray 172)).there w.heap.size 0 vinit.toArray.size:=zE w vzero.toArray 172
theorem zne (w:World) (h:Glob w):
   Calls prog 102 #[] w fun e w'=>e=.returned (.agg vinit.toArray)∧Below w.heap.size w w':=by
  have hz:=zeN
  have hfo:List.foldl (fun(cs:Array Value) (x:Value ×Nat)=>cs.setIfInBounds x.snd x.fst) vzero.toArray (v32 (list init)).zipIdx=vinit.toArray:=by kernel_rfl
  have hN:=zgD w
  have hI:=World.rangeAt_alloc h.1 (.cells vzero.toArray 172)
  have F:=zq w vzero.toArray 172 vinit rfl
  have hi:(prog.info? 172).map (·.size)=some vinit.toArray.size:=zgS
  have h1c:=zfc
  have hvl:(v32 (list init)).length=8:=rfl
  have hzl:vzero.length=74:=rfl
  have hi8:(prog.info? 168).map (·.size)=some (v32 (list init)).length:=zgT
  obtain⟨vi,hvi⟩:∃vi,Hid (vinit=vi):=⟨_,rfl⟩
  obtain⟨vs,hvs⟩:∃vs,Hid (v32 (list init)=vs):=⟨_,rfl⟩
  rw[hvi.out]at hN F hi h1c
  rw[hvs.out]at hI hi8 hvl
  rw[hvs.out,hvi.out]at hfo
  rw[hvi.out]
  generalize vzero=vz at *
  go_enter func102,ntmps102
  go_upto_region 1 with fail
  refine wp_region_list ?_
  refine wpList_load_mid rfl 168 _ rfl 0 0 rfl vs _ hI underlying168 rfl hi8 ?_
  go_wp2_with (refine wpList_store_mid rfl 172 _ _ rfl _ _ vi.toArray rfl rfl hN hi (all_oneCell_toArray h1c) ?_)
  obtain⟨hF1,hF2,hF3,hF4⟩:=F
  generalize (w.alloc (.cells vz.toArray 172)).setCells w.heap.size 0 vi=wx at *
  have hrs:=run_loadVar_mid (P:=prog) wx w.heap.size 0 172 vi _ hF1 underlying172 rfl (by simpa using hi)
  refine bodyPost_ret (v:=.agg vi.toArray) (by simp[results,results102,Act.put,asAddr,hrs]) rfl ⟨rfl,hF2⟩
structure Part where
 a:Option Addr
 cap:Nat
 zs:List Int
def Part.val (p:Part):Value:=.slice p.a p.zs.length p.cap
def Part.at (p:Part) (w:World):Prop:=RowAt w p.a p.zs∧p.zs.length≤p.cap∧p.cap≤maxLen
def PartsAt (w:World) (a:Option Addr) (ps:List Part):Prop:=
 ps.length≤maxLen∧(∀p∈ps,p.at w)∧(ps=[]∨∃b off,a=some ⟨b,off,none⟩∧b<w.heap.size∧w.rangeAt b off (ps.map Part.val))
def cat (ps:List Part):List Int:=ps.flatMap Part.zs
theorem Part.at.below {w w':World} {p:Part} (h:p.at w) (hb:Below w.heap.size w w'):p.at w':=⟨h.1.below hb,h.2.1,h.2.2⟩
theorem PartsAt.below {w w':World} {a:Option Addr} {ps:List Part} (h:PartsAt w a ps) (hb:Below w.heap.size w w'):PartsAt w' a ps:=by
 refine⟨h.1,fun p hp=>(h.2.1 p hp).below hb,?_⟩
 rcases h.2.2 with q|⟨b,off,rfl,h1,h2⟩
 ·exact Or.inl q
 ·exact Or.inr ⟨b,off,rfl,Nat.lt_of_lt_of_le h1 hb.size,za h2 hb h1⟩
theorem zhD (p q:List Part):cat (p++q)=cat p++cat q:=by simp[cat]
theorem zeB (ps:List Part) (k:Nat) (hk:k<ps.length):cat (ps.take (k+1))=cat (ps.take k)++ps[k].zs:=by
 rw[List.take_succ_eq_append_getElem hk,zhD]
 congr 1
 simp[cat]
theorem zmQ (ps:List Part) (k:Nat):(cat (ps.take k)).length≤(cat ps).length:=by
 have e:cat ps=cat (ps.take k)++cat (ps.drop k):=by rw[←zhD,List.take_append_drop]
 rw[e,List.length_append];omega
theorem zjm (w:World) (R:Nat) (hg:Glob w) (hR:R<w.heap.size) (h2:2≤R) (hr:w.rangeAt R 0 vinit) (ht:w.there R 0 74):Run w R init [] 0:=by
 refine⟨h2,hR,ht,?_,by simp,by simp,⟨List.replicate 64 (0:Int),by simp,?_⟩,?_,?_,hg.2.1⟩
 ·exact zI (zI hr)
 ·have:=zO (zI hr);exact this
 ·exact hr 72 _ rfl
 ·exact hr 73 _ rfl
theorem zdL (a:Option Addr) (cap:Nat) (ps:List Part) (w:World) (hG:Glob w) (h:PartsAt w a ps) (hn:(cat ps).length<1152921504606846976):
   Calls prog 63 #[.slice a ps.length cap] w fun e w'=>e=.returned (.agg (v8 (sha (cat ps))).toArray)∧Below w.heap.size w w':=by
  have hm:=h.1
  unfold maxLen at hm
  have hz:=zeN
  have B1:Below w.heap.size w (w.alloc (.cells (Array.replicate 32 (.int .u8 0)) 41)):=(Below.refl _ _).alloc (Nat.le_refl _) _
  have cb:=zne (w.alloc (.cells (Array.replicate 32 (.int .u8 0)) 41)) (hG.below B1)
  have hD:=(zaq w 32 41).2
  have hi:(prog.info? 172).map (·.size)=some vinit.toArray.size:=zgS
  have h1c:=zfc
  go_enter func63,ntmps63
  go_wp2_with fail
  refine cb.mono ?_
  rintro e w1 ⟨rfl,hw1⟩
  clear cb
  have hN:=zgD w1
  have F:=zq w1 vzero.toArray 172 vinit rfl
  have hs1:=hw1.size
  simp only[World.size_alloc]at hs1
  have hB1:Below w.heap.size w w1:=B1.trans (hw1.mono (by simp))
  have hD1:=zg hD hw1 (by simp)
  clear hw1 hD B1
  obtain⟨vi,hvi⟩:∃vi,Hid (vinit=vi):=⟨_,rfl⟩
  rw[hvi.out]at hN F hi h1c ⊢
  have HZL:Hid (vzero.toArray.size=74):=rfl
  generalize vzero=vz at *
  go_wp2_with (refine wpList_store_mid rfl 172 _ _ rfl _ _ vi.toArray rfl rfl hN hi (all_oneCell_toArray h1c) ?_)
  go_name_world w2 hw2
  rw[hw2]at F
  obtain⟨hF1,hF2,hF3,hF4⟩:=F
  rw[←hvi.out]at hF1
  have hB2:=hB1.trans (hF2.mono (by omega))
  have hD2:=zg hD1 hF2 (by omega)
  have hGw2:=hG.below hB2
  have hR0:=zjm w2 w1.heap.size hGw2 (by omega) (by have:=hG.2.2;omega) hF1 (zL hF4 0 74 (by rw[←HZL.out];simp))
  clear hw2 hN hi h1c hz hF1 hF2 hF4 hB1 hD1 hGw2
  have hRw:w.heap.size<w1.heap.size:=by omega
  generalize w1.heap.size=R at hR0 hF3 hRw ⊢
  go_loopw [9] (fun i wr=>∃(k:Nat) (s:St) (wt:List Int) (N:Nat),k≤ps.length∧i=.int .i64 (k:Int)∧Hid (feeds (init,[]) (cat (ps.take k))=(s,wt))∧Hid ((cat (ps.take k)).length=N)∧Run wr R s wt N∧Below w.heap.size w wr∧wr.there w.heap.size 0 32) (fun i _=>ps.length - (intOf i).toNat)
  case atStart=>exact⟨0,init,[],0,by omega,rfl,rfl,rfl,hR0,hB2,hD2⟩
  case round=>
    clear hR0 hB2 hD2 hF3
    obtain⟨k,s,wt,N,hk,rfl,hfd,hN,hRun,hB,hD⟩:=hrel
    by_cases hlt:k<ps.length
    · obtain ⟨b, off, rfl, hbs, hrg⟩ : ∃ b off, a = some ⟨b, off, none⟩ ∧ b < w.heap.size ∧ w.rangeAt b off (ps.map Part.val) := by
        rcases h.2.2 with rfl|q
        · simp at hlt
        · exact q
      obtain⟨pa,pc,pz,hp,hat⟩:∃pa pc pz,Hid (ps[k]=⟨pa,pc,pz⟩)∧(⟨pa,pc,pz⟩:Part).at w:=by
        have:=h.2.1 ps[k] (List.getElem_mem hlt)
        exact⟨ps[k].a,ps[k].cap,ps[k].zs,rfl,this⟩
      have hcell:wr.cell? ⟨b,off+k,none⟩=some (.slice pa pz.length pc):=by
        rw[hB.cell (p:=⟨b,off+k,none⟩) hbs]
        refine hrg k _ ?_
        rw[List.getElem?_map,List.getElem?_eq_getElem hlt,hp.out];rfl
      obtain⟨hr,hpc,hpm⟩:=hat
      have hbe:=hB.size
      have htot:N+pz.length≤(cat ps).length:=by
        have:=zmQ ps (k+1)
        rw[zeB ps k hlt,List.length_append,hN.out,hp.out]at this
        exact this
      have ca:=zhW R s wt N pa pc pz wr hRun (hr.below hB) hpc hpm (by
        rcases hr.2.2 with q|⟨b',o',hx',hb',_⟩
        · exact Or.inl q
        · exact Or.inr (fun x hx=>by rw[show pa=some ⟨b',o',none⟩ from hx']at hx;cases hx;show b'≠R;omega)) (by omega)
      have HS:Hid (feeds (init,[]) (cat (ps.take (k+1)))=feeds (s,wt) pz):=by
        show _=_
        rw[zeB ps k hlt,zcp,hfd.out,hp.out]
      have HN:Hid ((cat (ps.take (k+1))).length=N+pz.length):=by
        show _=_
        rw[zeB ps k hlt,List.length_append,hN.out,hp.out]
      clear hp hr hfd hN hpm htot hpc
      go_wp2_with fail
      refine ca.mono ?_
      rintro e w3 ⟨rfl,hR3,hg3⟩
      clear ca
      go_wp2_with fail
      go_roundw
      case rel=>
        refine⟨k+1,_,_,_,by omega,by go_num,HS,HN,hR3,hB.grown hg3 hB.size (fun j hj=>by cases hj;omega),zdC hD hg3 (by have:=hRun.lt;omega) (by omega)⟩
      case measure=>simp[intOf];omega
    · obtain rfl:k=ps.length:=by omega
      rw[List.take_length]at hfd hN
      have hwt:=zlV (cat ps) (init,[]) (by simp)
      rw[hfd.out,hN.out]at hwt
      have ce:=zmh R s wt N wr hRun (by simpa using hwt.1) (by rw[←hN.out];exact hn)
      have HR:Hid (Sha.bytes (feeds (s,wt) (Sha.tail N)).1=sha (cat ps)):=by
        show _=_
        unfold sha
        rw[zcp,hfd.out,hN.out]
      rw[HR.out]at ce
      have hsl:(v8 (sha (cat ps))).length=32:=by rw[v8_length];unfold sha;rw[zbH,zbW];rfl
      have h1c:=zy (sha (cat ps))
      obtain⟨cs,hcs⟩:∃cs,Hid (v8 (sha (cat ps))=cs):=⟨_,rfl⟩
      rw[hcs.out]at ce hsl h1c
      clear HR hwt hN hfd
      go_wp2_with fail
      refine ce.mono ?_
      rintro e w3 ⟨rfl,hg3⟩
      clear ce
      have hD3:=zdC hD hg3 (by have:=hRun.lt;omega) (by omega)
      have hB3:Below w.heap.size w w3:=hB.grown hg3 hB.size (fun j hj=>by cases hj;omega)
      have hi:(prog.info? 41).map (·.size)=some cs.toArray.size:=by rw[List.size_toArray,hsl];exact zbm
      have hsz:cs.toArray.size=32:=by rw[List.size_toArray,hsl]
      have hD4:w3.there w.heap.size 0 cs.toArray.size:=by rw[hsz];exact hD3
      go_wp2_with (refine wpList_store_mid rfl 41 _ _ rfl _ _ cs.toArray rfl rfl hD4 hi (all_oneCell_toArray h1c) ?_)
      have hRr:=World.rangeAt_setCells_same w3 w.heap.size 0 cs (by rw[hsl];exact hD3)
      have hBl:=zi (Nat.le_refl w.heap.size) cs 0 w3 hB3
      have hrs:=run_loadVar_mid (P:=prog) (w3.setCells w.heap.size 0 cs) w.heap.size 0 41 cs _ hRr underlying41 rfl (by rw[hsl];exact zbm)
      refine bodyPost_ret (v:=.agg cs.toArray) (by simp[results,results63,Act.put,asAddr,hrs]) rfl ⟨by rw[hcs.out],hBl⟩
open Go Go.RowKit
section
variable {P : Program} (w : World)
theorem zfM (base:Nat) (t tx ty e:TypeId) (i:TypeInfo) (z:Value) (size bytes:Nat) (ht:P.underlying t=some (.slice e)) (hi:P.info? e=some i) (hz:i.zero=some z)
    (hsize:i.size=size) (hby:i.bytes=bytes) (hzs:z.cells.size=size)
    (v:Value) (n:Nat) (xs:List Value) (hown:w.ownsRow base e size v n xs)
    (x:Value) (m:Nat) (news:List Value) (hs:Src P size tx x m news w)
    (h63:n+m≤maxLen) (hbytes:(n+m)*bytes≤140737488355328) (hbase:base≤w.heap.size):
    ∃v' w',(Builtin.append_ #[t,tx] ty #[v,x]).run P w=.ok v' w'∧w'.ownsRow base e size v' (n+m) (xs++news)∧w.grownBy w' v.ownBlock:=by
  subst hsize
  subst hby
  have hl:=hs.newsLen
  have hlen:(xs++news).length=(n+m)*i.size:=by rw[List.length_append,hown.1,hl,Nat.add_mul]
  have grown : ∀ (old : Nat), old < n + m → ∀ (row : Option Nat),
      (w.drew.alloc (.cells ((xs++news).toArray++Builtin.zeroCells z.cells (grownCap w (n+m) old e - (n+m))) e)).ownsRow base e i.size
        (.slice (some ⟨w.heap.size,0,none⟩) (n+m) (grownCap w (n+m) old e)) (n+m) (xs++news)∧
      w.grownBy (w.drew.alloc (.cells ((xs++news).toArray++Builtin.zeroCells z.cells (grownCap w (n+m) old e - (n+m))) e)) row:=by
    intro old ho row
    have hge:=grownCap_ge w (n+m) old e
    have hcm:grownCap w (n+m) old e≤maxLen:=grownCap_le_maxLen w (n+m) old e h63
    refine⟨⟨hlen,.inr ⟨w.heap.size,_,_,rfl,hbase,heap_alloc_new w.drew _,hge,hcm,?_,?_⟩⟩,⟨rfl,rfl,rfl,by simp,fun k hk _=>Below.heap_alloc w.drew _ k hk⟩⟩
    · simp only[Array.size_append,List.size_toArray,size_zeroCells,hzs,hlen,←Nat.add_mul]
      congr 1
      omega
    · simp only[Array.toList_append]
      rw[←hlen]
      exact List.take_left
  have h63':((n+m:Nat):Int)≤9223372036854775807:=by simp only[maxLen]at h63;omega
  rcases hown.2 with⟨rfl,rfl⟩|⟨g,cap,cur,rfl,hbg,hg,hnc,hcm,hcs,htake⟩
  · have hx:xs=[]:=List.eq_nil_of_length_eq_zero (by simpa using hown.1)
    subst hx
    by_cases hm:m=0
    · subst hm
      have hn:news=[]:=List.eq_nil_of_length_eq_zero (by simpa using hl)
      subst hn
      refine⟨.slice none 0 0,w,?_,World.ownsRow_nil w base e i.size,⟨rfl,rfl,rfl,Nat.le_refl _,fun _ _ _=>rfl⟩⟩
      have hc:=hs.cells
      rcases hs.kind with⟨e',hk⟩|hk<;>simp[Builtin.append_,run_underlying ht,run_underlying hk,sizeOf,typeInfo,hi,hs.len,hc]
    · have hr:=run_append_grow_src (P:=P) w t tx ty e i z ht hi hz none 0 0 [] (run_firstCells_none w.drew i.size 0 0 0) x m news hs (by omega) (by simpa using h63') (growslice_fits (by omega) (by simpa using hbytes))
      have hgr:=grown 0 (by omega) (Value.ownBlock (.slice none 0 0))
      exact⟨_,_,hr,hgr.1,hgr.2⟩
  · by_cases hroom:n+m≤cap
    · have hfit:n*i.size+news.length≤cur.size:=by rw[hl,hcs,←Nat.add_mul];exact Nat.mul_le_mul_right _ hroom
      have hst:=run_storeCells_at P g (n*i.size) e news 0 cur w hg (by simpa using hfit) hs.one
      simp only[Nat.add_zero]at hst
      have hr:(Builtin.append_ #[t,tx] ty #[.slice (some ⟨g,0,none⟩) n cap,x]).run P w=.ok (.slice (some ⟨g,0,none⟩) (n+m) cap) (w.setRow g (cur.toList.take (n*i.size)++news++cur.toList.drop (n*i.size+news.length)).toArray):=by
        rcases hs.kind with⟨e',hk⟩|hk<;>simp[Builtin.append_,run_underlying ht,run_underlying hk,sizeOf,typeInfo,hi,hs.len,hroom,hs.cells,Addr.add_lit,hst]
      refine⟨_,_,hr,⟨hlen,.inr ⟨g,cap,_,rfl,hbg,setRow_heap w g cur _ e _ hg,hroom,hcm,?_,?_⟩⟩,⟨rfl,rfl,rfl,by simp,fun k _ hk=>setRow_other w g k _ (fun e=>hk (by simp[Value.ownBlock,e]))⟩⟩
      · simp only[List.size_toArray,List.length_append,List.length_take,List.length_drop,Array.length_toList]
        omega
      · rw[htake,←hlen]
        exact List.take_left
    · have holds:∀j u,xs[j]? =some u→w.cell? ((⟨g,0,none⟩:Addr).add j)=some u:=hown.cells (g:=g) rfl
      have hr:=run_append_grow_src (P:=P) w t tx ty e i z ht hi hz (some ⟨g,0,none⟩) n cap xs (run_firstCells_some w.drew i.size n ⟨g,0,none⟩ n cap xs hown.1 (by simpa using holds)) x m news hs (by omega) h63' (growslice_fits (by omega) hbytes)
      have hgr:=grown cap (by omega) (Value.ownBlock (.slice (some ⟨g,0,none⟩) n cap))
      exact⟨_,_,hr,hgr.1,hgr.2⟩
theorem zK {ops:Array Oper} {rest:List Oper} {o:Oper} {a:Act} {Q:Exit→Act→World→Prop} (hgd:o.guard=none) (s x:Operand) (t tx:TypeId)
  (ho:o.op=.call {callee:=.builtin .append,args:=#[s,x],argTypes:=#[t,tx]})
  (base:Nat) (e:TypeId) (i:TypeInfo) (z:Value) (size bytes:Nat) (ht:P.underlying t=some (.slice e)) (hi:P.info? e=some i) (hz:i.zero=some z)
  (hsize:i.size=size) (hby:i.bytes=bytes) (hzs:z.cells.size=size)
  (v:Value) (n:Nat) (xs:List Value) (hv:a.eval s=v) (hown:w.ownsRow base e size v n xs)
  (xv:Value) (m:Nat) (news:List Value) (hx:a.eval x=xv) (hs:Src P size tx xv m news w)
  (h63:n+m≤maxLen) (hbytes:(n+m)*bytes≤140737488355328) (hbase:base≤w.heap.size)
  (h:∀v' w',w'.ownsRow base e size v' (n+m) (xs++news)→w.grownBy w' v.ownBlock→wpList P ops Q rest (a.put o.dst v') w'):wpList P ops Q (o::rest) a w:=by
 refine wpList_plain hgd fun K hK=>?_
 obtain⟨v',w',hr,h2,h3⟩:=zfM (P:=P) w base t tx o.type e i z size bytes ht hi hz hsize hby hzs v n xs hown xv m news hs h63 hbytes hbase
 unfold Oper.wp execOp
 simp only[ho,resolve,invoke,builtin,Sem.run_bind,Sem.run_pure,Result.andThen_ok,List.map_toArray,List.map_cons,List.map_nil,hv,hx,hr]
 exact hK _ _ (h v' w' h2 h3)
end
end Go.Proofs.YtcbpbkefggekmaaGreatDoor
namespace Go.Proofs.YtcbpbkefggekmaaGreatDoor
open Go.RowKit
open Sha
theorem zat:(prog.info? 5).map (fun i=>(i.zero,i.size,i.bytes))=some (some (.int .u8 0),1,1):=by kernel_rfl
theorem infoP:(prog.info? 59).map (fun i=>(i.zero,i.size,i.bytes))=some (some (.slice none 0 0),1,24):=by kernel_rfl
theorem zW {e:TypeId} {z:Value} {s b:Nat} (h:(prog.info? e).map (fun i=>(i.zero,i.size,i.bytes))=some (some z,s,b)):∃i,prog.info? e=some i∧i.zero=some z∧i.size=s∧i.bytes=b:=by
  cases hq:prog.info? e with
  |none=>rw[hq]at h;cases h
  |some i=>
    rw[hq]at h
    simp only[Option.map_some,Option.some.injEq,Prod.mk.injEq]at h
    exact⟨i,rfl,h.1,h.2.1,h.2.2⟩
theorem zU {B:Nat} {w w1 w2:World} {e:TypeId} {v:Value} {n:Nat} {xs:List Value} (hb:Below B w w1) (hB:B≤w1.heap.size) (ho:w1.ownsRow B e 1 v n xs) (hg:w1.grownBy w2 v.ownBlock):Below B w w2:=
 hb.grown hg hB (fun k hk=>(ho.lt k hk).1)
theorem zbj {w w':World} {B:Nat} {e:TypeId} {v:Value} {n:Nat} {xs:List Value} (h:w.ownsRow B e 1 v n xs) (hb:Below w.heap.size w w'):w'.ownsRow B e 1 v n xs:=by
 refine⟨h.1,?_⟩
 rcases h.2 with h|⟨g,cap,cur,hv,hg,hh,r⟩
 ·exact .inl h
 ·exact .inr ⟨g,cap,cur,hv,hg,by rw[hb.block g (Array.getElem?_eq_some_iff.1 hh).1];exact hh,r⟩
theorem za7 {w:World} {B:Nat} {e:TypeId} {v:Value} {n:Nat} {xs:List Value} (h:w.ownsRow B e 1 v n xs):
  (v=.slice none 0 0∧n=0∧xs=[])∨∃g cap,v=.slice (some ⟨g,0,none⟩) n cap∧B≤g∧g<w.heap.size∧n≤cap∧cap≤maxLen∧w.rangeAt g 0 xs:=by
 have hl:=h.1
 rcases h.2 with⟨rfl,h0⟩|⟨g,cap,cur,rfl,hb,hg,hn,hcm,hcs,ht⟩
 ·left
  refine⟨rfl,h0,List.eq_nil_of_length_eq_zero (by rw[hl,h0])⟩
 ·right
  refine⟨g,cap,rfl,hb,(Array.getElem?_eq_some_iff.1 hg).1,hn,hcm,fun j u hu=>?_⟩
  have:=h.cells (g:=g) rfl j u hu
  rwa [Addr.add_mid]at this
theorem zbV {w:World} {B:Nat} {v:Value} {zs:List Int} (h:w.ownsRow B 5 1 v zs.length (v8 zs)) (hz:∀z∈zs,0≤z∧z<256) (hm:zs.length≤maxLen):
  ∃a cap,v=.slice a zs.length cap∧zs.length≤cap∧cap≤maxLen∧RowAt w a zs:=by
 rcases za7 h with⟨rfl,h0,_⟩|⟨g,cap,rfl,hb,hg,hn,hcm,hr⟩
 ·have:zs=[]:=List.eq_nil_of_length_eq_zero h0
  subst this
  exact⟨none,0,rfl,by simp,by unfold maxLen;omega,hm,hz,Or.inl rfl⟩
 ·exact⟨_,cap,rfl,hn,hcm,hm,hz,Or.inr ⟨g,0,rfl,hg,hr⟩⟩
theorem zko {w:World} {B:Nat} {v:Value} {ps:List Part} (h:w.ownsRow B 59 1 v ps.length (ps.map Part.val)) (hp:∀p∈ps,p.at w) (hm:ps.length≤maxLen):
  ∃a cap,v=.slice a ps.length cap∧PartsAt w a ps:=by
 rcases za7 h with⟨rfl,h0,_⟩|⟨g,cap,rfl,hb,hg,hn,hcm,hr⟩
 ·have:ps=[]:=List.eq_nil_of_length_eq_zero h0
  subst this
  exact⟨none,0,rfl,hm,hp,Or.inl rfl⟩
 ·exact⟨_,cap,rfl,hm,hp,Or.inr ⟨g,0,rfl,hg,hr⟩⟩
theorem RowAt.src {w:World} {a:Option Addr} {zs:List Int} (h:RowAt w a zs) (cap:Nat):Src prog 1 59 (.slice a zs.length cap) zs.length (v8 zs) w:=by
 cases a with
 |none=>
  have:zs=[]:=by
   rcases h.2.2 with q|⟨b,off,hx,_⟩
   ·exact q
   ·cases hx
  subst this
  exact Src.ofNil w underlying59 cap
 |some x=>
  refine Src.ofSlice w underlying59 x zs.length cap _ (by simp) (fun j u hu=>?_) (zy _)
  rcases h.2.2 with rfl|⟨b,off,hx,_,hr⟩
  ·simp[v8]at hu
  ·cases hx
   rw[Addr.add_mid]
   exact hr j u hu
theorem zkA (w:World) (p:Part):Src prog 1 166 (.slice (some ⟨w.heap.size,0,none⟩) 1 1) 1 [p.val] (w.alloc (.cells #[p.val] 59)):=
 Src.ofSlice _ underlying166 ⟨w.heap.size,0,none⟩ 1 1 [p.val] (by simp) (fun j u hu=>by rw[Addr.add_mid];exact zC w #[p.val] 59 j u hu) (fun u hu=>by
  obtain rfl:=List.mem_singleton.1 hu
  rfl)
def IsRow (k:IntKind) (w:World) (a:Option Addr) (len cap:Nat) (zs:List Int):Prop:=
 (a=none∧len=0∧cap=0∧zs=[])∨
 ∃x,a=some x∧len≤cap∧cap≤maxLen∧zs.length=cap∧(∀i,i<zs.length→w.cell? (x.add i)=some (.int k (zs.getD i 0)))∧∀n∈zs,(Lit.int k n).wf=true
open Go.RowKit
open Sha
theorem zb1 (w:World) (z:Int):Src prog 1 59 (.slice (some ⟨w.heap.size,0,none⟩) 1 1) 1 (v8 [z]) (w.alloc (.cells #[.int .u8 z] 5)):=
 Src.ofSlice _ underlying59 ⟨w.heap.size,0,none⟩ 1 1 (v8 [z]) (by simp) (fun j u hu=>by rw[Addr.add_mid];exact zC w #[.int .u8 z] 5 j u hu) (zy _)
theorem zc0 {w:World} {B:Nat} {v:Value} {n:Nat} {xs:List Value} (h:w.ownsRow B 5 1 v n xs):∃a cap,v=.slice a n cap:=by
 rcases za7 h with⟨rfl,rfl,_⟩|⟨g,cap,rfl,_⟩
 ·exact⟨none,0,rfl⟩
 ·exact⟨_,cap,rfl⟩
def padL (zs:List Int) (k:Nat):List Int:=zs++128::List.replicate k 0
theorem zkk (zs:List Int) (k:Nat):padL zs (k+1)=padL zs k++[0]:=by
 unfold padL;rw[List.replicate_succ',List.append_assoc];rfl
theorem zki (a:Option Addr) (cap:Nat) (zs:List Int) (w:World) (h:RowAt w a zs) (hm:zs.length≤1000000):
   Calls prog 147 #[.slice a zs.length cap] w fun e w'=>∃v,e=.returned v∧w'.ownsRow w.heap.size 5 1 v (zs++Sha.tail zs.length).length (v8 (zs++Sha.tail zs.length))∧Below w.heap.size w w':=by
  obtain⟨i0,hi,hz0,hz1,hz2⟩:=zW zat
  obtain⟨n,hn⟩:∃n,Hid (zs.length=n):=⟨_,rfl⟩
  obtain⟨Z,hZ⟩:∃Z,Hid (Z=(119 - n%64)%64):=⟨_,rfl⟩
  have hZ64:Z<64:=by rw[hZ.out];omega
  have hB0:Below w.heap.size w (w.alloc (.cells #[] 5)):=(Below.refl _ _).alloc (Nat.le_refl _) _
  have hown0:(w.alloc (.cells #[] 5)).ownsRow w.heap.size 5 1 (.slice (some ⟨w.heap.size,0,none⟩) 0 0) 0 []:=World.ownsRow_made w #[] 0 (Nat.le_refl _) (by simp) (by simp)
  have hsrc:=(h.below hB0).src cap
  go_enter func147,ntmps147
  go_wp2_with (at_builtin;refine zK _ rfl _ _ 59 59 rfl w.heap.size 5 i0 (.int .u8 0) 1 1 underlying59 hi hz0 hz1 hz2 rfl _ 0 _ rfl hown0 _ zs.length _ rfl hsrc ?c1 ?c2 ?c3 ?_)
  case c1=>unfold maxLen;omega
  case c2=>omega
  case c3=>simp
  intro v1 w1 hown1 hgr1
  have hB1:=zU hB0 hB0.size hown0 hgr1
  clear hown0 hB0 hsrc hgr1
  have hown2:=zbj hown1 ((Below.refl w1.heap.size w1).alloc (Nat.le_refl _) (.cells #[.int .u8 128] 5))
  have hB2:Below w.heap.size w (w1.alloc (.cells #[.int .u8 128] 5)):=hB1.alloc hB1.size _
  have hsrc2:=zb1 w1 128
  go_wp2_with (at_builtin;refine zK _ rfl _ _ 59 59 rfl w.heap.size 5 i0 (.int .u8 0) 1 1 underlying59 hi hz0 hz1 hz2 rfl _ zs.length _ rfl hown2 _ 1 _ rfl hsrc2 ?c1 ?c2 ?c3 ?_)
  case c1=>unfold maxLen;omega
  case c2=>omega
  case c3=>have:=hB1.size;simp;omega
  intro v3 w3 hown3 hgr3
  have hB3:=zU hB2 hB2.size hown2 hgr3
  clear hown2 hB2 hsrc2 hgr3 hown1 hB1
  go_wp2_with fail
  go_loopw [3] (fun v wr=>∃k:Nat,k≤Z∧wr.ownsRow w.heap.size 5 1 v (zs.length+1+k) (v8 (padL zs k))∧Below w.heap.size w wr) (fun v _=>zs.length+1+Z - lenV v)
  case atStart=>exact⟨0,by omega,by simpa [v8,padL]using hown3,hB3⟩
  case round=>
    clear hown3 hB3
    obtain⟨k,hk,hown,hB⟩:=hrel
    obtain⟨av,cv,rfl⟩:=zc0 hown
    by_cases hlt:k<Z
    · have hmod : ¬ ((zs.length : Int) + 1 + k) % 64 = 56 := by
        have:=hZ.out;have:=hn.out;omega
      have hmod2:¬(zs.length+1+k)%64=56:=by omega
      have hown2:=zbj hown ((Below.refl wr.heap.size wr).alloc (Nat.le_refl _) (.cells #[.int .u8 0] 5))
      have hB2:Below w.heap.size w (wr.alloc (.cells #[.int .u8 0] 5)):=hB.alloc hB.size _
      have hsrc2:=zb1 wr 0
      obtain⟨m,hmm⟩:∃m,Hid (zs.length+1+k=m):=⟨_,rfl⟩
      have hm2:m≤2000000:=by rw[←hmm.out];omega
      have hmod3:¬(m:Int)%64=56:=by rw[←hmm.out];omega
      rw[hmm.out]at hown2 ⊢
      clear hmod hmod2
      go_wp2_with (at_builtin;refine zK _ rfl _ _ 59 59 rfl w.heap.size 5 i0 (.int .u8 0) 1 1 underlying59 hi hz0 hz1 hz2 rfl _ m _ rfl hown2 _ 1 _ rfl hsrc2 ?c1 ?c2 ?c3 ?_)
      case c1=>unfold maxLen;omega
      case c2=>omega
      case c3=>have:=hB.size;simp;omega
      intro v4 w4 hown4 hgr4
      have hB4:=zU hB2 hB2.size hown2 hgr4
      clear hown2 hB2 hsrc2 hgr4 hown
      obtain⟨av4,cv4,rfl⟩:=zc0 hown4
      go_wp2_with fail
      go_roundw
      case rel=>
        refine⟨k+1,by omega,?_,hB4⟩
        have e1:zs.length+1+(k+1)=m+1:=by rw[←hmm.out];omega
        have e2:v8 (padL zs (k+1))=v8 (padL zs k)++v8 [0]:=by
          rw[←zS,zkk]
        rw[e1,e2]
        exact hown4
      case measure=>have:=hmm.out;simp[lenV];omega
    · obtain rfl:k=Z:=by omega
      have hmod:((zs.length:Int)+1+k)%64=56:=by
        have:=hZ.out;have:=hn.out;omega
      obtain⟨m,hmm⟩:∃m,Hid (zs.length+1+k=m):=⟨_,rfl⟩
      have hm2:m≤2000000:=by rw[←hmm.out];omega
      have hmod3:(m:Int)%64=56:=by rw[←hmm.out];omega
      have hownM:wr.ownsRow w.heap.size 5 1 (.slice av (zs.length+1+k) cv) (zs.length+1+k+0) (v8 ((padL zs k)++(zaG (8*n)).take 0)):=by simpa using hown
      rw[hmm.out]at hownM ⊢
      clear hmod hown
      have hnl:(zs.length:Int)=(n:Int):=by rw[hn.out]
      have hn6:n≤1000000:=by rw[←hn.out];exact hm
      go_wp2_with fail
      clear hmod3 hnl
      go_loopw [3,5] (fun v i wr=>∃k':Nat,k'≤8∧i=.int .i64 (7 - (k':Int))∧wr.ownsRow w.heap.size 5 1 v (m+k') (v8 ((padL zs k)++(zaG (8*n)).take k'))∧Below w.heap.size w wr) (fun _ i _=>(intOf i+1).toNat)
      case atStart=>exact⟨0,by omega,rfl,hownM,hB⟩
      case round=>
        clear hownM hB
        obtain⟨j,hj,rfl,hown,hB⟩:=hrel
        obtain⟨av2,cv2,rfl⟩:=zc0 hown
        by_cases hl8:j<8
        · have hge:(0:Int)≤7 - (j:Int):=by omega
          obtain⟨z,hzz⟩:∃z,Hid (s8at (8*n) j=z):=⟨_,rfl⟩
          have hown2:=zbj hown ((Below.refl wr.heap.size wr).alloc (Nat.le_refl _) (.cells #[.int .u8 z] 5))
          have hB2:Below w.heap.size w (wr.alloc (.cells #[.int .u8 z] 5)):=hB.alloc hB.size _
          have hsrc2:=zb1 wr z
          have esh:8*(n:Int) / 2^(8*(7 - j))%256=z:=by
            rw[←hzz.out,show 8*(7 - j)=56 - 8*j by omega]
            exact zfx n j
          go_wp2_with (at_builtin;refine zK _ rfl _ _ 59 59 rfl w.heap.size 5 i0 (.int .u8 0) 1 1 underlying59 hi hz0 hz1 hz2 rfl _ (m+j) _ rfl hown2 _ 1 _ rfl hsrc2 ?c1 ?c2 ?c3 ?_)
          case c1=>unfold maxLen;omega
          case c2=>omega
          case c3=>have:=hB.size;simp;omega
          intro v4 w4 hown4 hgr4
          have hB4:=zU hB2 hB2.size hown2 hgr4
          clear hown2 hB2 hsrc2 hgr4 hown esh
          go_wp2_with fail
          go_roundw
          case rel=>
            refine⟨j+1,by omega,by go_num,?_,hB4⟩
            have e2:v8 ((padL zs k)++(zaG (8*n)).take (j+1))=v8 ((padL zs k)++(zaG (8*n)).take j)++v8 [z]:=by
              rw[←zS,zfs _ _ hl8,hzz.out,List.append_assoc]
            rw[e2]
            exact hown4
          case measure=>simp[intOf];omega
        · have hge:¬(0:Int)≤7 - (j:Int):=by omega
          have hj8:j=8:=by omega
          have hfin:wr.ownsRow w.heap.size 5 1 (.slice av2 (m+j) cv2) (zs++Sha.tail zs.length).length (v8 (zs++Sha.tail zs.length)):=by
            have e:padL zs k++(zaG (8*n)).take j=zs++Sha.tail zs.length:=by
              unfold padL Sha.tail
              rw[hn.out,hj8,List.take_of_length_le (by rw[zb9];omega),hZ.out,List.append_assoc]
              rfl
            have el:m+j=(zs++Sha.tail zs.length).length:=by
              rw[List.length_append,zdK,hn.out,←hmm.out,hj8,hZ.out,hn.out];omega
            rw[←el,←e]
            exact hown
          clear hown hj8
          go_wp2_with fail
          go_ret
          exact⟨_,rfl,by simpa using hfin,hB⟩
end Go.Proofs.YtcbpbkefggekmaaGreatDoor
