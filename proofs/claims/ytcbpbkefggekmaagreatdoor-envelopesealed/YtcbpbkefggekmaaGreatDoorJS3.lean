/- the document's Sum; digests' parts: what the contracts of digests are told; the document's Bytes: a digest's bytes, by themselves; math/bits.Len64, by its contr -/
import Derived.Test.YtcbpbkefggekmaaGreatDoorJS0
import Derived.Test.YtcbpbkefggekmaaGreatDoorJS2
import Derived.Lib.SlBytesConst
import Derived.WalkLawsBesides
import Derived.SliceStrings
import Derived.WalkKit
import Derived.WalkSpells
import Derived.Lib.BitFns
import Derived.Lib.Small
import Derived.Lib.Walk
import Derived.Test.YtcbpbkefggekmaaGreatDoorJS1
import Derived.Maps.OwnSet
set_option maxHeartbeats 4000000
set_option maxRecDepth 100000
open Go.Proofs.Tryz
namespace Go.Proofs.YtcbpbkefggekmaaGreatDoor
open Go.RowKit
open Sha
theorem zcr {P:Program} {o:Oper} {a:Act} {w:World} {ty:TypeId} {x:Operand} {b off:Nat} {v:Value} (ho:o.op=.load ty x) (hx:a.eval x=.pointer (some ⟨b,off,none⟩)) (hr:(loadVar ty ⟨b,off,none⟩).run P w=.ok v w):(execOp a.eval o).run P w=.ok (.value v) w:=by
 unfold execOp
 simp only[ho,hx,Instr.loadAt,Instr.sureAddr,Sem.run_bind,Sem.run_pure,Result.andThen_ok,hr]
theorem zbG {P:Program} {o:Oper} {a:Act} {w w':World} {ty:TypeId} {x y:Operand} {b off:Nat} {v:Value} (ho:o.op=.store ty x y) (hx:a.eval x=.pointer (some ⟨b,off,none⟩)) (hy:a.eval y=v) (hr:(storeVar ty ⟨b,off,none⟩ v).run P w=.ok () w'):(execOp a.eval o).run P w=.ok .skip w':=by
 unfold execOp
 simp only[ho,hx,hy,Instr.storeAt,Instr.sureAddr,Sem.run_bind,Sem.run_pure,Result.andThen_ok,hr]
theorem ziY {w:World} {H:Nat} (s:St) (hT:w.there H 0 8):(storeVar 168 ⟨H,0,none⟩ (.agg (v32 (list s)).toArray)).run prog w=.ok () (w.setCells H 0 (v32 (list s))):=by
 have:=run_storeVar_mid (P:=prog) w H 0 168 (v32 (list s)).toArray hT zco (all_oneCell_toArray (zbg _))
 simpa using this
theorem zgJ {w:World} {H:Nat} (s:St) (hR:w.rangeAt H 0 (v32 (list s))):(loadVar 168 ⟨H,0,none⟩).run prog w=.ok (.agg (v32 (list s)).toArray) w:=
 run_loadVar_mid w H 0 168 (v32 (list s)) _ hR underlying168 rfl zco
theorem zlW (s:St) (P:List Int) (j:Nat) (st:St) (h:feeds (s,[]) (P.take (64*j))=(st,[])) (hj:64*(j+1)≤P.length):feeds (s,[]) (P.take (64*(j+1)))=(Sha.block st ((P.drop (64*j)).take 64),[]):=by
 have e:P.take (64*(j+1))=P.take (64*j)++(P.drop (64*j)).take 64:=by
  rw[show 64*(j+1)=64*j+64 by omega,List.take_add]
 have hl:((P.drop (64*j)).take 64).length=64:=by rw[List.length_take,List.length_drop];omega
 rw[e,zcp,h,zha st [] _ (by rw[hl];rfl) (by simp)]
 rfl
theorem zmV (x:Wd) (k:Nat):(x.toNat:Int) / 2^(24 - 8*k)%256=Sha.byteOf x k:=by
 unfold Sha.byteOf
 simp
theorem zlL (x:Wd) (k:Nat) (hk:k<4):(four x).take (k+1)=(four x).take k++[Sha.byteOf x k]:=by
  match k,hk with
  |0,_=>rfl
  |1,_=>rfl
  |2,_=>rfl
  |3,_=>rfl
theorem zkj (n:Nat):∃N,n+(9+(119 - n%64)%64)=64*N:=⟨(n+(9+(119 - n%64)%64)) / 64,by omega⟩
theorem zcT (a:Option Addr) (cap:Nat) (zs:List Int) (w:World) (h:RowAt w a zs) (hm:zs.length≤1000000):
   Calls prog 98 #[.slice a zs.length cap] w fun e w'=>e=.returned (.agg (v8 (sha zs)).toArray)∧Below w.heap.size w w':=by
  have hB0:Below w.heap.size w ((w.alloc (.cells (Array.replicate 32 (.int .u8 0)) 41)).alloc (.cells (Array.replicate 8 (.int .u32 0)) 168)):=((Below.refl _ _).alloc (Nat.le_refl _) _).alloc (by simp) _
  have hD0:=World.there_alloc (zaq w 32 41).2 (.cells (Array.replicate 8 (.int .u32 0)) 168)
  have hH0:=new8 (w.alloc (.cells (Array.replicate 32 (.int .u8 0)) 41))
  have es:(w.alloc (.cells (Array.replicate 32 (.int .u8 0)) 41)).heap.size=w.heap.size+1:=by simp
  rw[es]at hH0
  have h1s:=all_oneCell_toArray (zbg (list init))
  go_enter func98,ntmps98
  go_upto_region 2 with(refine wpList_store_mid (op:=⟨none,.store 168 (.tmp 3) (.tmp 9),_,_,_,none⟩) rfl 168 _ _ rfl (w.heap.size+1) 0 (v32 (list init)).toArray rfl rfl hH0 zco h1s ?_)
  go_name_world w1 hw1
  obtain⟨hB1,hD1,hH1,hT1,hz1⟩:Below w.heap.size w w1∧w1.there w.heap.size 0 32∧w1.rangeAt (w.heap.size+1) 0 (v32 (list init))∧w1.there (w.heap.size+1) 0 8∧w1.heap.size=w.heap.size+2:=by
    have q1:=zi (Nat.le_succ w.heap.size) (v32 (list init)) 0 _ hB0
    have q2:=World.there_setCells hD0 (w.heap.size+1) 0 (v32 (list init))
    have q3:=World.rangeAt_setCells_same _ (w.heap.size+1) 0 (v32 (list init)) hH0
    have q4:=World.there_setCells hH0 (w.heap.size+1) 0 (v32 (list init))
    have q5:=zB (w.heap.size+1) (v32 (list init)) 0 ((w.alloc (.cells (Array.replicate 32 (.int .u8 0)) 41)).alloc (.cells (Array.replicate 8 (.int .u32 0)) 168))
    have q6:((w.alloc (.cells (Array.replicate 32 (.int .u8 0)) 41)).alloc (.cells (Array.replicate 8 (.int .u32 0)) 168)).heap.size=w.heap.size+2:=by simp
    rw[q6]at q5
    have e:=hw1
    exact⟨e▸q1,e▸q2,e▸q3,e▸q4,e▸q5⟩
  clear hw1 hB0 hD0 hH0 es h1s
  have cp:=zki a cap zs w1 (h.below hB1) hm
  have hPl:(zs++Sha.tail zs.length).length=zs.length+(9+(119 - zs.length%64)%64):=by rw[List.length_append,zdK]
  obtain⟨N,hN⟩:=zkj zs.length
  rw[hN]at hPl
  have hPok:∀z∈zs++Sha.tail zs.length,0≤z∧z<256:=fun z hz=>by
    rcases List.mem_append.1 hz with hz|hz
    · exact h.2.1 z hz
    · exact zfi _ z hz
  have HSH:Hid (sha zs=Sha.bytes (feeds (init,[]) (zs++Sha.tail zs.length)).1):=rfl
  generalize zs++Sha.tail zs.length=P at cp hPl hPok HSH
  have hN1:1≤N:=by omega
  have hN2:N≤20000:=by omega
  simp only[Act.put]
  go_wp2_with fail
  refine cp.mono ?_
  rintro e w2 ⟨v,rfl,hown,hw2⟩
  rw[hPl]at hown
  obtain⟨g,cg,rfl,hgB,hgs,hgc,hgm,hgr⟩:∃g cap,v=.slice (some ⟨g,0,none⟩) (64*N) cap∧w1.heap.size≤g∧g<w2.heap.size∧64*N≤cap∧cap≤maxLen∧w2.rangeAt g 0 (v8 P):=by
    rcases za7 hown with⟨_,h0,_⟩|q
    · omega
    · exact q
  unfold maxLen at hgm
  have hB2:=hB1.trans (hw2.mono hB1.size)
  have hD2:=zg hD1 hw2 (by omega)
  have hH2:=za hH1 hw2 (by omega)
  have hT2:=zg hT1 hw2 (by omega)
  have hs2:=hw2.size
  clear hown hw2 hD1 hH1 hT1 hB1 cp
  have hgw:w.heap.size+2≤g:=by omega
  have hs2':w.heap.size+2≤w2.heap.size:=by omega
  clear hgB hs2 hz1
  go_wp2_with fail
  go_loopw [5] (fun i wr=>∃(j:Nat) (st:St),j≤N∧i=.int .i64 (64*(j:Int))∧Hid (feeds (init,[]) (P.take (64*j))=(st,[]))∧wr.rangeAt (w.heap.size+1) 0 (v32 (list st))∧wr.there (w.heap.size+1) 0 8∧wr.there w.heap.size 0 32∧wr.rangeAt g 0 (v8 P)∧g<wr.heap.size∧Below w.heap.size w wr) (fun i _=>64*N - (intOf i).toNat)
  case atStart=>exact⟨0,init,by omega,rfl,rfl,hH2,hT2,hD2,hgr,hgs,hB2⟩
  case round=>
    clear hH2 hT2 hD2 hgr hgs hB2 hs2'
    obtain⟨j,st,hj,rfl,hfd,hH,hT,hD,hgr,hgs,hB⟩:=hrel
    by_cases hlt:j<N
    · have hltI:64*(j:Int)<64*(N:Int):=by omega
      have hld:=zgJ st hH
      obtain⟨bs,hbs⟩:∃bs,Hid ((P.drop (64*j)).take 64=bs):=⟨_,rfl⟩
      have hbl:bs.length=64:=by rw[←hbs.out,List.length_take,List.length_drop];omega
      have hbo:∀z∈bs,0≤z∧z<256:=by rw[←hbs.out];exact fun z hz=>hPok z (List.mem_of_mem_drop (List.mem_of_mem_take hz))
      have hbr:wr.rangeAt g (64*j) (v8 bs):=by
        have e:v8 P=v8 (P.take (64*j))++v8 bs++v8 ((P.drop (64*j)).drop 64):=by
          rw[←zS,←zS,←hbs.out,List.append_assoc,List.take_append_drop,List.take_append_drop]
        rw[e]at hgr
        have:=zdY hgr
        rwa [v8_length,List.length_take_of_le (by omega),Nat.zero_add]at this
      have HFN:Hid (feeds (init,[]) (P.take (64*(j+1)))=(Sha.block st bs,[])):=by
        rw[←hbs.out];exact zlW init P j st hfd.out (by omega)
      have hcp:64*j<cg:=by omega
      go_wp2_with fail
      refine zw (S:=fun _=>True) 8 rfl (by kernel_rfl) ?_
      have hS:(fun _:World=>True) wr.drew:=trivial
      have W1:IntKind.i64.wrap (64*(j:Int)+64)=64*(j:Int)+64:=by rw[IntKind.wrap_i64];omega
      have i1:64*(j:Int)+64≤(cg:Int):=by omega
      have hslx:=fun w'=>run_slice_lh (P:=prog) w' 59 (some ⟨g,0,none⟩) (64*N) cg underlying59 .i64 .i64 (64*(j:Int)) (64*(j:Int)+64) (by omega) (by omega) (by omega)
      refine hs_t 1 19 (?_) rfl (by kernel_rfl) (by kernel_rfl) (by kernel_rfl) (by rfl) ?_ hS rfl ?_
      rotate_left
      · intro w' _
        go_simp
        try with_reducible rfl
      simp only[nz]
      refine hs_t 2 20 (?_) rfl (by kernel_rfl) (by kernel_rfl) (by kernel_rfl) (by rfl) ?_ hS rfl ?_
      rotate_left
      · intro w' _
        go_simp
        try with_reducible rfl
      simp only[nz]
      refine hs_t 3 21 (?_) rfl (by kernel_rfl) (by kernel_rfl) (by kernel_rfl) (by rfl) ?_ hS rfl ?_
      rotate_left
      · intro w' _
        go_simp
        try with_reducible rfl
      simp only[nz]
      refine hs_t 4 22 (?_) rfl (by kernel_rfl) (by kernel_rfl) (by kernel_rfl) (by rfl) ?_ hS rfl ?_
      rotate_left
      · intro w' _
        go_simp
        try with_reducible rfl
      simp only[nz]
      refine hs_t 5 23 (.slice (some ⟨g,64*j,none⟩) 64 (cg - 64*j)) rfl (by kernel_rfl) (by kernel_rfl) (by kernel_rfl) (by rfl) ?_ hS rfl ?_
      · intro w' _
        go_simp
        have et:(64*(j:Int)).toNat=64*j:=by omega
        have et2:(64*(j:Int)+64).toNat=64*j+64:=by omega
        rw[et,et2,if_neg (by omega)]
        exact⟨rfl,by omega,rfl⟩
      simp only[nz]
      refine zbo (i:=0) (d:=some 18) (v:=.agg (v32 (list st)).toArray) (w':=wr.drew) rfl (by kernel_rfl) (by rfl) (zcr rfl rfl (zgJ st ((World.rangeAt_drew _ _ _ _).2 hH))) rfl trivial ?_
      simp only[nz]
      refine hs_c 6 24 ?_
      refine(zm9 st g (64*j) (cg - 64*j) bs wr.drew hbl hbo hgs ((World.rangeAt_drew _ _ _ _).2 hbr)).mono ?_
      rintro e' w4 ⟨rfl,hw4⟩
      refine⟨_,rfl,trivial,?_⟩
      simp only[nz]
      have hB4:Below w.heap.size w w4:=hB.drew.trans (hw4.mono hB.size)
      have hs4:wr.heap.size≤w4.heap.size:=hw4.size
      have hb1:w.heap.size+1<wr.heap.size:=by omega
      have hT4:=zg ((World.there_drew _ _ _ _).2 hT) hw4 hb1
      have hD4:=zg ((World.there_drew _ _ _ _).2 hD) hw4 (show w.heap.size<wr.drew.heap.size by show w.heap.size<wr.heap.size;omega)
      have hg4:=za ((World.rangeAt_drew _ _ _ _).2 hgr) hw4 hgs
      refine zG (i:=7) (w':=w4.setCells (w.heap.size+1) 0 (v32 (list (Sha.block st bs)))) rfl (by kernel_rfl) (by rfl) (zbG rfl rfl rfl (ziY (Sha.block st bs) hT4)) rfl trivial ?_
      refine zv (by kernel_rfl) ?_
      have hR5:=World.rangeAt_setCells_same w4 (w.heap.size+1) 0 (v32 (list (Sha.block st bs))) hT4
      have hT5:=World.there_setCells hT4 (w.heap.size+1) 0 (v32 (list (Sha.block st bs)))
      have hD5:=World.there_setCells hD4 (w.heap.size+1) 0 (v32 (list (Sha.block st bs)))
      have hg5:=World.rangeAt_setCells_apart hg4 (w.heap.size+1) 0 (v32 (list (Sha.block st bs))) (Or.inl (by omega))
      have hB5:=zi (Nat.le_succ w.heap.size) (v32 (list (Sha.block st bs))) 0 w4 hB4
      have hz5:=zB (w.heap.size+1) (v32 (list (Sha.block st bs))) 0 w4
      generalize w4.setCells (w.heap.size+1) 0 (v32 (list (Sha.block st bs)))=w5 at *
      obtain⟨st2,hst2⟩:∃st2,Hid (Sha.block st bs=st2):=⟨_,rfl⟩
      rw[hst2.out]at hR5 HFN ⊢
      clear hT4 hD4 hg4 hB4 hbr hbs hbl hbo hld hslx hst2
      go_wp2_with fail
      go_roundw
      case rel=>exact⟨j+1,st2,by omega,by go_num,HFN,hR5,hT5,hD5,hg5,by omega,hB5⟩
      case measure=>simp[intOf];omega
    · have hjN:j=N:=by omega
      have hltI:¬64*(j:Int)<64*(N:Int):=by omega
      have HSF:Hid (sha zs=Sha.bytes st):=by
        have e:=hfd.out
        rw[hjN,List.take_of_length_le (by omega)]at e
        rw[HSH.out,e];rfl
      have q:=zaq wr 32 41
      have hH':=World.rangeAt_alloc hH (.cells (Array.replicate 32 (.int .u8 0)) 41)
      have hD':=World.there_alloc hD (.cells (Array.replicate 32 (.int .u8 0)) 41)
      have hB':Below w.heap.size w (wr.alloc (.cells (Array.replicate 32 (.int .u8 0)) 41)):=hB.alloc hB.size _
      have hDw:w.heap.size+1<wr.heap.size:=by omega
      clear hfd hjN hgr hT hH hD hB HSH
      go_upto_region 8 with fail
      go_name_world w6 hw6
      rw[show wr.alloc (.cells (Array.replicate 32 (.int .u8 0)) 41)=w6 from hw6]at q hH' hD' hB'
      clear hw6
      obtain⟨hZ0,hN0⟩:=q
      generalize wr.heap.size=D at *
      go_wp2_with fail
      go_loopw [7] (fun i wr=>∃ii:Nat,ii≤8∧i=.int .i64 (ii:Int)∧wr.rangeAt D 0 (v8 (outb ((list st).take ii)++List.replicate (32 - 4*ii) (0:Int)))∧wr.there D 0 32∧wr.rangeAt (w.heap.size+1) 0 (v32 (list st))∧wr.there w.heap.size 0 32∧Below w.heap.size w wr) (fun i _=>8 - (intOf i).toNat)
      case atStart=>exact⟨0,by omega,rfl,hZ0,hN0,hH',hD',hB'⟩
      case round=>
        clear hZ0 hN0 hH' hD' hB'
        obtain⟨ii,hi8,rfl,hZ,hN,hH,hD,hB⟩:=hrel
        by_cases hl8:ii<8
        · obtain⟨x,hx⟩:∃x,Hid ((list st).getD ii 0=x):=⟨_,rfl⟩
          have hxt:Hid ((list st).take (ii+1)=(list st).take ii++[x]):=by
            have hl:ii<(list st).length:=hl8
            rw[List.take_succ_eq_append_getElem hl,←hx.out,List.getD_eq_getElem?_getD,List.getElem?_eq_getElem hl];rfl
          have hol:Hid ((outb ((list st).take ii)).length=4*ii):=by
            show _=_
            rw[zbW,List.length_take];simp[list];omega
          go_wp2_with fail
          go_loopw [8] (fun i wr=>∃kk:Nat,kk≤4∧i=.int .i64 (kk:Int)∧wr.rangeAt D 0 (v8 (outb ((list st).take ii)++(four x).take kk++List.replicate (32 - 4*ii - kk) (0:Int)))∧wr.there D 0 32∧wr.rangeAt (w.heap.size+1) 0 (v32 (list st))∧wr.there w.heap.size 0 32∧Below w.heap.size w wr) (fun i _=>4 - (intOf i).toNat)
          case atStart=>exact⟨0,by omega,rfl,by simpa using hZ,hN,hH,hD,hB⟩
          case round=>
            clear hZ hN hH hD hB
            obtain⟨kk,hk4,rfl,hZ,hN,hH,hD,hB⟩:=hrel
            by_cases hl4:kk<4
            · have hcx:=zbF hH (i:=ii) (show ii<8 from hl8)
              rw[hx.out,Nat.zero_add]at hcx
              have hxl:=x.isLt
              obtain⟨u,hu⟩:=Option.isSome_iff_exists.1 (hN (4*ii+kk) (by omega)).1
              have hf:=(hN (4*ii+kk) (by omega)).2
              rw[Nat.zero_add]at hu hf
              go_wp2_with fail
              rw[zmV]
              go_roundw
              case rel=>
                refine⟨kk+1,by omega,by go_num,?_,zP hN _ _,zaI hH _ _ (fun e=>absurd e (by show D≠w.heap.size+1;omega)),zP hD _ _,hB.setCell (p:=⟨D,4*ii+kk,none⟩) (by show w.heap.size≤D;omega) _⟩
                have:=zaa hZ (4*ii+kk) (.int .u8 (Sha.byteOf x kk))
                rw[Nat.zero_add,zb5]at this
                have e1:=zfD (outb ((list st).take ii)++(four x).take kk) (32 - 4*ii - kk) (Sha.byteOf x kk) (by omega)
                have el:(outb ((list st).take ii)++(four x).take kk).length=4*ii+kk:=by
                  rw[List.length_append,hol.out,List.length_take];simp[four];omega
                rw[el]at e1
                rw[e1]at this
                rw[zlL x kk hl4,←List.append_assoc,show 32 - 4*ii - (kk+1)=32 - 4*ii - kk - 1 by omega]
                exact this
              case measure=>simp[intOf];omega
            · have hk:kk=4:=by omega
              have hkI:¬(kk:Int)<4:=by omega
              have hZ4:wr.rangeAt D 0 (v8 (outb ((list st).take (ii+1))++List.replicate (32 - 4*(ii+1)) (0:Int))):=by
                rw[hxt.out,zgi]
                have e4:(four x).take kk=four x:=by rw[hk];rfl
                rw[e4,show 32 - 4*ii - kk=32 - 4*(ii+1) by omega]at hZ
                exact hZ
              clear hZ hk
              go_wp2_with fail
              go_roundw
              case rel=>exact⟨ii+1,by omega,by go_num,hZ4,hN,hH,hD,hB⟩
              case measure=>simp[intOf];omega
        · have hii:ii=8:=by omega
          have hiI:¬(ii:Int)<8:=by omega
          have hZ8:wr.rangeAt D 0 (v8 (Sha.bytes st)):=by
            rw[hii]at hZ
            have e8:(list st).take 8=list st:=rfl
            rw[e8]at hZ
            simpa [zbH]using hZ
          have hbl:(v8 (Sha.bytes st)).length=32:=by rw[v8_length,zbH,zbW];rfl
          have h1c:=zy (Sha.bytes st)
          obtain⟨cs,hcs⟩:∃cs,Hid (v8 (Sha.bytes st)=cs):=⟨_,rfl⟩
          rw[hcs.out]at hZ8 hbl h1c
          have hi:(prog.info? 41).map (·.size)=some cs.length:=by rw[hbl];exact zbm
          clear hZ hii
          go_upto_region 15 with fail
          refine wp_region_list ?_
          refine wpList_load_mid rfl 41 _ rfl _ _ rfl cs _ hZ8 underlying41 rfl hi ?_
          refine wpList_store_mid rfl 41 _ _ rfl _ _ cs.toArray rfl rfl (by simpa [hbl]using hD) (by simpa using hi) (all_oneCell_toArray h1c) ?_
          have hRr:=World.rangeAt_setCells_same wr w.heap.size 0 cs (by rw[hbl];exact hD)
          have hBl:=zi (Nat.le_refl w.heap.size) cs 0 wr hB
          generalize wr.setCells w.heap.size 0 cs=wx at *
          have hrs:=run_loadVar_mid (P:=prog) wx w.heap.size 0 41 cs _ hRr underlying41 rfl hi
          clear hi
          go_wp2_with fail
          refine bodyPost_ret (v:=.agg cs.toArray) (by simp[results,results98,asAddr,hrs]) rfl ⟨by rw[HSF.out,hcs.out],hBl⟩
def strOf (zs:List Int):ByteArray:=zs.foldl (fun r n=>r.push (UInt8.ofNat n.toNat)) ByteArray.empty
theorem zfR {w:World} {b off cap:Nat} {zs:List Int} (h:w.rangeAt b off (v8 zs)):(convert 59 9 (.slice (some ⟨b,off,none⟩) zs.length cap)).run prog w=.ok (.string (strOf zs)) w:=by
 rw[run_convert_bytes_string w 59 9 5 (some ⟨b,off,none⟩) zs.length cap underlying59 underlying5 underlying9]
 have:=run_loadCells_list (P:=prog) w ⟨b,off,none⟩ (v8 zs) (fun j v hv=>by rw[Addr.add_mid];exact h j v hv)
 rw[v8_length]at this
 exact run_bytesToString w ⟨b,off,none⟩ zs.length cap zs this
theorem zc3 (w:World) (arr:Array Value) (p:Part) (hp:p.at w) (harr:arr=#[p.val]):PartsAt (w.alloc (.cells arr 59)) (some ⟨w.heap.size,0,none⟩) [p]:=by
 subst harr
 have hB:Below w.heap.size w (w.alloc (.cells #[p.val] 59)):=(Below.refl _ _).alloc (Nat.le_refl _) _
 refine⟨by unfold maxLen;simp,fun q hq=>?_,Or.inr ⟨w.heap.size,0,rfl,by simp,zC w #[p.val] 59⟩⟩
 obtain rfl:=List.mem_singleton.1 hq
 exact hp.below hB
theorem zj7 (w:World) (arr:Array Value) (t:TypeId) (m:Nat ×Nat):(w.alloc (.cells arr t m)).rangeAt w.heap.size 0 arr.toList:=fun j v hv=>by
 rw[World.cell?_alloc_mark,Nat.zero_add]
 simpa using hv
theorem za0 (zs:List Int):(sha zs).length=32:=by unfold sha;rw[zbH,zbW];rfl
theorem zbP (zs:List Int):∀z∈sha zs,0≤z∧z<256:=by unfold sha;rw[zbH];exact zkv _
theorem zhK (w:World) (d:List Int) (t:TypeId):(w.alloc (.cells (v8 d).toArray t)).rangeAt w.heap.size 0 (v8 d):=by
 have:=zC w (v8 d).toArray t
 simpa using this
theorem zcj {w:World} {B B':Nat} {e:TypeId} {v:Value} {n:Nat} {xs:List Value} (h:w.ownsRow B e 1 v n xs) (hB:B'≤B):w.ownsRow B' e 1 v n xs:=by
 refine⟨h.1,?_⟩
 rcases h.2 with h|⟨g,cap,cur,hv,hg,r⟩
 ·exact .inl h
 ·exact .inr ⟨g,cap,cur,hv,Nat.le_trans hB hg,r⟩
theorem zeC (d:List Int) (w:World) (hd:d.length=32):
   Calls prog 100 #[.agg (v8 d).toArray] w fun e w'=>∃v,e=.returned v∧w'.ownsRow w.heap.size 5 1 v d.length (v8 d)∧Below w.heap.size w w':=by
  obtain⟨i0,hi,hz0,hz1,hz2⟩:=zW zat
  have B0:Below w.heap.size w (w.alloc (.cells (v8 d).toArray 41)):=(Below.refl _ _).alloc (Nat.le_refl _) _
  have hR:=zhK w d 41
  obtain⟨cs,hcs⟩:∃cs,Hid (v8 d=cs):=⟨_,rfl⟩
  have HR:Hid ((w.alloc (.cells cs.toArray 41)).rangeAt w.heap.size 0 (v8 d)):=by rw[←hcs.out];exact hR
  clear hR
  rw[hcs.out]at B0 ⊢
  have HD:Hid (d.length=32):=hd
  clear hd
  go_enter func100,ntmps100
  go_upto_region 1 with fail
  go_name_world w1 hw1
  have e:=hw1
  have hR1:w1.rangeAt w.heap.size 0 (v8 d):=e▸HR.out
  have hB1:Below w.heap.size w w1:=e▸B0
  have hz:w.heap.size<w1.heap.size:=by rw[←e];simp
  clear e hw1 B0 HR
  go_wp2_with fail
  go_loopw [3,4] (fun v i wr=>∃k:Nat,k≤32∧i=.int .i64 (k:Int)∧wr.ownsRow (w.heap.size+1) 5 1 v k (v8 (d.take k))∧Below (w.heap.size+1) w1 wr) (fun _ i _=>32 - (intOf i).toNat)
  case atStart=>exact⟨0,by omega,rfl,by simpa [v8]using World.ownsRow_nil w1 (w.heap.size+1) 5 1,Below.refl _ _⟩
  case round=>
    obtain⟨k,hk,rfl,hown,hB⟩:=hrel
    by_cases hlt:k<32
    · have hc : wr.cell? ⟨w.heap.size, k, none⟩ = some (.int .u8 (d.getD k 0)) := by
        have:=get8 (za hR1 hB (by omega)) (i:=k) (by rw[HD.out];exact hlt)
        rwa [Nat.zero_add]at this
      obtain⟨z,hzz⟩:∃z,Hid (d.getD k 0=z):=⟨_,rfl⟩
      rw[hzz.out]at hc
      have hsz:=hB.size
      have hown2:=zbj hown ((Below.refl wr.heap.size wr).alloc (Nat.le_refl _) (.cells #[.int .u8 z] 5))
      have hB2:Below (w.heap.size+1) w1 (wr.alloc (.cells #[.int .u8 z] 5)):=hB.alloc (by omega) _
      have hsrc2:=zb1 wr z
      go_wp2_with (at_builtin;refine zK _ rfl _ _ 59 59 rfl (w.heap.size+1) 5 i0 (.int .u8 0) 1 1 underlying59 hi hz0 hz1 hz2 rfl _ k _ rfl hown2 _ 1 _ rfl hsrc2 ?c1 ?c2 ?c3 ?_)
      case c1=>unfold maxLen;omega
      case c2=>omega
      case c3=>simp;omega
      intro v4 w4 hown4 hgr4
      have hB4:=zU hB2 (by simp;omega) hown2 hgr4
      clear hown2 hB2 hsrc2 hgr4 hown
      go_wp2_with fail
      go_roundw
      case rel=>
        refine⟨k+1,by omega,by go_num,?_,hB4⟩
        have hlk:k<d.length:=by rw[HD.out];exact hlt
        have et:d.take (k+1)=d.take k++[z]:=by
          rw[List.take_succ_eq_append_getElem hlk,←hzz.out,List.getD_eq_getElem?_getD,List.getElem?_eq_getElem hlk];rfl
        rw[et,zS]
        exact hown4
      case measure=>simp[intOf];omega
    · have hk32:k=32:=by omega
      have hkI:¬(k:Int)<32:=by omega
      obtain⟨av,cv,rfl⟩:=zc0 hown
      have hfin:wr.ownsRow w.heap.size 5 1 (.slice av k cv) d.length (v8 d):=by
        have e:d.take k=d:=List.take_of_length_le (by rw[HD.out];omega)
        rw[e]at hown
        rw[HD.out,←hk32]
        exact zcj hown (by omega)
      have hBf:Below w.heap.size w wr:=hB1.trans (hB.mono (by omega))
      clear hown hk32
      go_wp2_with fail
      go_ret
      refine⟨_,rfl,?_,hBf⟩
      rw[←hcs.out]
      exact hfin
theorem zbk (x s:Nat) (y:Int) (hx:x<2^63) (hy0:0≤y) (hy1:y≤255) (hy:y.toNat=x / 2^s) (h:s=0∨2^s≤x):
  Lib.len8 y=(Lib.bitLen x:Int) - s∧(Lib.bitLen x:Int) - s≤8∧0≤(Lib.bitLen x:Int) - s:=by
 have e:Lib.bitLen x=s+Lib.bitLen (x / 2^s):=by
  rcases h with rfl|h
  ·simp
  ·exact Lib.bitLen_shift s x h (by omega)
 have l:=Lib.bitLen_le8' y hy0 hy1
 rw[Lib.len8_of y hy0 hy1,hy]
 rw[hy]at l
 omega
theorem zii {P:Program} {w:World} {ops:Array Oper} {rest:List Oper} {o:Oper} {a:Act} {Q:Exit→Act→World→Prop} (hgd:o.guard=none) (t:TypeId) (tbl:ByteArray) (x:Operand)
  (ho:o.op=.index t (.const (.string tbl)) x) (ht:P.underlying t=some .string) (htbl:tbl=Lib.len8tab) (k:IntKind) (i:Int) (hx:a.eval x=.int k i) (h0:0≤i) (h1:i≤255)
  (h:wpList P ops Q rest (a.put o.dst (.int .u8 (Lib.len8 i))) w):wpList P ops Q (o::rest) a w:=by
 subst htbl
 refine wpList_plain hgd fun K hK=>?_
 have hr:=Lib.run_index_len8tab (P:=P) w t k i ht h0 h1
 have hc:a.eval (.const (.string Lib.len8tab))=.string Lib.len8tab:=rfl
 unfold Oper.wp execOp
 simp only[ho,Sem.run_bind,hc,hx,hr,Result.andThen_ok,Sem.run_pure]
 exact hK _ _ h
theorem zlN (a b c d:List UInt8) (h:ByteArray.mk ((a.append b).append (c.append d)).toArray=Lib.len8tab):ByteArray.mk ((a.append b).append (c.append d)).toArray=Lib.len8tab:=h
theorem zk7 (x:Int) (w:World) (h0:0≤x) (h1:x≤9223372036854775807):
  Calls prog 126 #[.int .u64 x] w fun e w'=>e=.returned (.int .i64 (Lib.bitLen x.toNat))∧w'=w:=by
 go_enter func126,ntmps126
 rw[zlN _ _ _ _ (by kernel_rfl)]
 go_wp2_with (refine zii rfl 9 Lib.len8tab _ rfl underlying9 rfl .u8 _ rfl ?_ ?_ ?_;(omega);(omega))
 all_goals (go_ret;refine⟨congrArg Ending.returned (congrArg (Value.int IntKind.i64) ?_),rfl⟩)
 all_goals first
  |(obtain⟨e,l,m⟩:=zbk x.toNat 56 (x / 4294967296 / 65536 / 256) (by omega) (by omega) (by omega) (by omega) (by omega);rw[e];simp only[wrap64];omega)
  |(obtain⟨e,l,m⟩:=zbk x.toNat 48 (x / 4294967296 / 65536) (by omega) (by omega) (by omega) (by omega) (by omega);rw[e];simp only[wrap64];omega)
  |(obtain⟨e,l,m⟩:=zbk x.toNat 40 (x / 4294967296 / 256) (by omega) (by omega) (by omega) (by omega) (by omega);rw[e];simp only[wrap64];omega)
  |(obtain⟨e,l,m⟩:=zbk x.toNat 32 (x / 4294967296) (by omega) (by omega) (by omega) (by omega) (by omega);rw[e];simp only[wrap64];omega)
  |(obtain⟨e,l,m⟩:=zbk x.toNat 24 (x / 65536 / 256) (by omega) (by omega) (by omega) (by omega) (by omega);rw[e];simp only[wrap64];omega)
  |(obtain⟨e,l,m⟩:=zbk x.toNat 16 (x / 65536) (by omega) (by omega) (by omega) (by omega) (by omega);rw[e];simp only[wrap64];omega)
  |(obtain⟨e,l,m⟩:=zbk x.toNat 8 (x / 256) (by omega) (by omega) (by omega) (by omega) (by omega);rw[e];simp only[wrap64];omega)
  |(obtain⟨e,l,m⟩:=zbk x.toNat 0 (x) (by omega) (by omega) (by omega) (by omega) (by omega);rw[e];simp only[wrap64];omega)
namespace Tal
open Go
def wid (n:Nat):Nat:=(Lib.bitLen n+7) / 8
def digK:Nat→Nat→List Int
  |0,_=>[]
  |k+1,n=>digK k (n / 256)++[((n%256:Nat):Int)]
def digs (n:Nat):List Int:=digK (wid n) n
def numB (n:Nat):List Int:=(wid n:Int)::digs n
def putL (n:Int):List Int:=if n<0 then[]else numB n.toNat
theorem zcF:wid 0=0:=by decide
theorem ze2 (n:Nat) (h0:0<n) (h:n<2^63):wid n=wid (n / 256)+1:=by
 unfold wid
 by_cases h2:256≤n
 ·rw[Lib.bitLen_shift8 n h2 (by omega)];omega
 ·have e:n / 256=0:=by omega
  have h3:=Lib.bitLen_half n (by omega) (by omega)
  have h4:=Lib.bitLen_le8 ⟨n,by omega⟩
  simp only at h4
  rw[e]
  have:Lib.bitLen 0=0:=by decide
  rw[this]
  omega
theorem zcG:∀(k n:Nat),n<2^63→n<256^k→wid n≤k∧n<256^wid n∧(0<n→0<wid n∧256^(wid n - 1)≤n)
  |0,n,_,h=>by
    have:n=0:=by simpa using h
    subst this
    rw[zcF];simp
  |k+1,n,hn,h=>by
    by_cases h0:n=0
    · subst h0;rw[zcF];simp
    · have hs:=ze2 n (by omega) hn
      obtain⟨a,b,c⟩:=zcG k (n / 256) (by omega) (by rw[Nat.pow_succ]at h;omega)
      rw[hs]
      refine⟨by omega,by rw[Nat.pow_succ];omega,fun _=>⟨by omega,?_⟩⟩
      rw[Nat.add_sub_cancel]
      by_cases h1:n / 256=0
      · rw[h1,zcF];simp;omega
      · obtain⟨c1,c2⟩:=c (by omega)
        have:wid (n / 256)=wid (n / 256) - 1+1:=by omega
        rw[this,Nat.pow_succ]
        omega
theorem zbe (n:Nat) (h:n<2^63):wid n≤8:=(zcG 8 n h (by omega)).1
theorem zct:∀k n,(digK k n).length=k
  |0,_=>rfl
  |k+1,n=>by simp[digK,zct k]
theorem zho:∀k n,∀z∈digK k n,0≤z∧z<256
  |0,_,z,h=>by simp[digK]at h
  |k+1,n,z,h=>by
    simp only[digK,List.mem_append,List.mem_singleton]at h
    rcases h with h|rfl
    · exact zho k _ z h
    · omega
theorem zew:∀k n i,i<k→(digK k n).getD i 0=((n / 256^(k - 1 - i)%256:Nat):Int)
  |0,_,_,h=>by omega
  |k+1,n,i,h=>by
    simp only[digK,List.getD_eq_getElem?_getD]
    by_cases hi:i<k
    · rw[List.getElem?_append_left (by rw[zct];exact hi),←List.getD_eq_getElem?_getD,zew k (n / 256) i hi,Nat.div_div_eq_div_mul]
      have e:k+1 - 1 - i=(k - 1 - i)+1:=by omega
      rw[e,Nat.pow_succ,Nat.mul_comm]
    · have e:i=k:=by omega
      subst e
      rw[List.getElem?_append_right (by rw[zct];exact Nat.le_refl _),zct]
      simp
theorem zeu:digs 0=[]:=by unfold digs;rw[zcF];rfl
theorem zhn (n:Nat) (h0:0<n) (h:n<2^63):digs n=digs (n / 256)++[((n%256:Nat):Int)]:=by
 unfold digs
 rw[ze2 n h0 h];rfl
theorem zaE (n:Nat):(digs n).length=wid n:=zct _ _
theorem zev (n:Nat):∀z∈digs n,0≤z∧z<256:=zho _ _
theorem zaJ (n:Int) (h:n<2^63):∀z∈putL n,0≤z∧z<256:=by
 intro z hz
 unfold putL at hz
 split at hz
 ·simp at hz
 ·simp only[numB,List.mem_cons]at hz
  rcases hz with rfl|hz
  ·have:=zbe n.toNat (by omega);omega
  ·exact zev _ z hz
theorem zab (n:Int) (h:n<2^63):(putL n).length≤9:=by
 unfold putL
 split
 ·simp
 ·simp only[numB,List.length_cons,zaE]
  have:=zbe n.toNat (by omega);omega
def val (l:List Int):Int:=l.foldl (fun a d=>a*256+d) 0
theorem zdz (l:List Int) (d:Int):val (l++[d])=val l*256+d:=by simp[val,List.foldl_append]
theorem zfe:∀k n,val (digK k n)=((n%256^k:Nat):Int)
  |0,n=>by simp[digK,val,Nat.mod_one]
  |k+1,n=>by
    rw[digK,zdz,zfe k (n / 256),Nat.pow_succ,Nat.mul_comm (256^k) 256,Nat.mod_mul]
    omega
theorem ziD (n:Nat) (h:n<2^63):val (digs n)=n:=by
 unfold digs
 rw[zfe,Nat.mod_eq_of_lt (zcG 8 n h (by omega)).2.1]
end Tal
open Go.RowKit
open Tal
theorem znc (x:Nat) (h:x<2^63):Lib.bitLen x≤64:=by
 have:=zbe x h;unfold wid at this;omega
theorem ze1 (n:Int) (w:World) (h0:0≤n) (h1:n≤9223372036854775807):
  Calls prog 78 #[.int .i64 n] w fun e w'=>e=.returned (.int .i64 (wid n.toNat))∧w'=w:=by
 have hl:=znc n.toNat (by omega)
 have HW:Hid ((wid n.toNat:Int)=((Lib.bitLen n.toNat:Int)+7) / 8):=by show _=_;unfold wid;omega
 go_enter func78,ntmps78
 go_wp2_with fail
 refine(zk7 n _ h0 h1).mono ?_
 rintro e w1 ⟨rfl,rfl⟩
 go_wp2
 go_ret
 rw[HW.out]
 exact⟨rfl,rfl⟩
theorem zdO (n:Int) (w:World) (h1:n≤9223372036854775807):
  Calls prog 77 #[.int .i64 n] w fun e w'=>e=.returned (.int .i64 ((putL n).length:Int))∧w'=w:=by
 by_cases h0:n<0
 ·have HP:Hid (putL n=[]):=by show _=_;simp[putL,h0]
  go_enter func77,ntmps77
  go_wp2
  go_ret
  rw[HP.out]
  exact⟨rfl,rfl⟩
 ·have hw:=zbe n.toNat (by omega)
  have HP:Hid (((putL n).length:Int)=1+(wid n.toNat:Int)):=by show _=_;simp only[putL,if_neg h0,numB,List.length_cons,zaE];omega
  go_enter func77,ntmps77
  go_wp2_with fail
  refine(ze1 n _ (by omega) h1).mono ?_
  rintro e w1 ⟨rfl,rfl⟩
  go_wp2
  go_ret
  rw[HP.out]
  exact⟨rfl,rfl⟩
def Mine (w:World) (B:Nat) (v:Value) (zs:List Int):Prop:=w.ownsRow B 5 1 v zs.length (zs.map (Value.int .u8))∧∀z∈zs,0≤z∧z<256
theorem Mine.below {w w':World} {B:Nat} {v:Value} {zs:List Int} (h:Mine w B v zs) (hb:Below w.heap.size w w'):Mine w' B v zs:=by
 refine⟨⟨h.1.1,?_⟩,h.2⟩
 rcases h.1.2 with h|⟨g,cap,cur,hv,hg,hh,r⟩
 ·exact .inl h
 ·exact .inr ⟨g,cap,cur,hv,hg,by rw[hb.block g (Array.getElem?_eq_some_iff.1 hh).1];exact hh,r⟩
theorem Mine.rowAt {w:World} {B:Nat} {v:Value} {zs:List Int} (h:Mine w B v zs) (hm:zs.length≤maxLen):∃a cap,v=.slice a zs.length cap∧zs.length≤cap∧cap≤maxLen∧RowAt w a zs:=
 zbV h.1 h.2 hm
theorem zdU (a:Option Addr) (cap:Nat) (zs:List Int) (more:Nat) (w:World) (h:RowAt w a zs) (hm:zs.length+more≤1099511627776):
  Calls prog 76 #[.slice a zs.length cap,.int .i64 (more:Int)] w fun e w'=>∃v,e=.returned v∧Mine w' w.heap.size v zs∧Below w.heap.size w w':=by
 obtain⟨i0,hi,hz0,hz1,hz2⟩:=zW zat
 go_enter func76,ntmps76
 go_wp2_with (first
  |refine wpList_make_own _ rfl _ _ 59 rfl w.heap.size 5 i0 (.int .u8 0) 1 underlying59 hi hz0 hz1 .i64 .i64 _ (zs.length+more) rfl rfl ?d1 ?d2 ?d3 ?d4 ?_)
 case d1=>omega
 case d2=>rw[hz2];omega
 case d3=>unfold maxLen;omega
 case d4=>exact Nat.le_refl _
 intro w1 hown hgrow
 have hb1:Below w.heap.size w w1:=(Below.refl _ _).grown hgrow (Nat.le_refl _) (fun k hk=>by cases hk)
 go_wp2_with (at_builtin;refine zK _ rfl _ _ 59 59 rfl w.heap.size 5 i0 (.int .u8 0) 1 1 underlying59 hi hz0 hz1 hz2 rfl _ 0 [] rfl hown (.slice a zs.length cap) zs.length (zs.map (Value.int .u8)) rfl ((h.below hb1).src cap) ?c1 ?c2 ?c3 ?_)
 case c1=>unfold maxLen;omega
 case c2=>omega
 case c3=>exact hb1.size
 intro v' w2 hown2 hgrow2
 have hb2:=zU hb1 hb1.size hown hgrow2
 go_wp2
 go_ret
 exact⟨_,rfl,⟨by simpa using hown2,h.2.1⟩,hb2⟩
theorem Mine.mk' {w:World} {B m:Nat} {v:Value} {xs:List Value} (L:List Int) (h:w.ownsRow B 5 1 v m xs) (hm:m=L.length) (hx:xs=L.map (Value.int .u8)) (hb:∀z∈L,0≤z∧z<256):Mine w B v L:=by
 subst hm;subst hx;exact⟨h,hb⟩
theorem zmt (n:Int) (K k:Nat) (h0:0≤n) (hK:wid n.toNat=K) (hk:k<K):n / 2^(8*(K - 1 - k))%256=(digs n.toNat).getD k 0:=by
 unfold digs
 rw[hK,zew K n.toNat k hk]
 obtain⟨m,rfl⟩:=Int.eq_ofNat_of_zero_le h0
 simp only[Int.toNat_natCast]
 have e:((2:Int)^(8*(K - 1 - k)))=((256^(K - 1 - k):Nat):Int):=by
  rw[Int.natCast_pow,Int.pow_mul];rfl
 rw[e,Int.natCast_emod,Int.natCast_ediv]
 rfl
theorem zeJ (w:World) (b:Int):Src prog 1 59 (.slice (some ⟨w.heap.size,0,none⟩) 1 1) 1 [.int .u8 b] (w.alloc (.cells #[.int .u8 b] 5)):=by
 refine Src.ofSlice _ underlying59 ⟨w.heap.size,0,none⟩ 1 1 [.int .u8 b] rfl (fun j u hu=>?_) (fun u hu=>?_)
 ·match j,hu with
  |0,hu=>
   simp at hu;subst hu
   show(w.alloc (.cells #[.int .u8 b] 5)).cell? ⟨w.heap.size,0,none⟩=_
   rw[World.cell?_alloc_at _ _ _ _ rfl];rfl
 ·simp at hu;subst hu;rfl
theorem zbx (a:Option Addr) (cap:Nat) (zs:List Int) (n:Int) (w:World) (h:RowAt w a zs) (hm:zs.length≤549755813888) (hn:n≤9223372036854775807):
  Calls prog 49 #[.slice a zs.length cap,.int .i64 n] w fun e w'=>∃v,e=.returned v∧Mine w' w.heap.size v (zs++putL n)∧Below w.heap.size w w':=by
 obtain⟨i0,hi,hz0,hz1,hz2⟩:=zW zat
 have hpl:=zab n (by omega)
 by_cases h0:n<0
 ·have HP:Hid (putL n=[]):=by show _=_;simp[putL,h0]
  go_enter func49,ntmps49
  go_wp2_with fail
  refine(zdO n _ hn).mono ?_
  rintro e w1 ⟨rfl,rfl⟩
  go_wp2_with fail
  refine(zdU a cap zs _ w1 h (by omega)).mono ?_
  rintro e w2 ⟨v,rfl,hmine,hb⟩
  go_wp2
  go_ret
  rw[HP.out,List.append_nil]
  exact⟨_,rfl,hmine,hb⟩
 ·have hw:=zbe n.toNat (by omega)
  have HP:Hid (putL n=(wid n.toNat:Int)::digs n.toNat):=by show _=_;simp[putL,h0,numB]
  go_enter func49,ntmps49
  go_wp2_with fail
  refine(zdO n _ hn).mono ?_
  rintro e w1 ⟨rfl,rfl⟩
  go_wp2_with fail
  refine(zdU a cap zs _ w1 h (by omega)).mono ?_
  rintro e w2 ⟨v,rfl,hmine,hb⟩
  clear hpl
  go_wp2_with fail
  refine(ze1 n _ (by omega) hn).mono ?_
  rintro e w3 ⟨rfl,rfl⟩
  generalize hK:wid n.toNat=K at hw HP
  go_wp2_with (at_builtin;refine zK _ rfl _ _ 59 59 rfl w1.heap.size 5 i0 (.int .u8 0) 1 1 underlying59 hi hz0 hz1 hz2 rfl _ zs.length _ rfl (hmine.1.alloc _) _ 1 _ rfl (zeJ _ _) ?c1 ?c2 ?c3 ?_)
  case c1=>unfold maxLen;omega
  case c2=>omega
  case c3=>have:=hb.size;simp;omega
  intro v2 w4 hown2 hgrow2
  have HK:Hid (wid n.toNat=K):=hK
  have hb4:Below w1.heap.size w1 w4:=zU (hb.alloc hb.size _) (by have:=hb.size;simp;omega) (hmine.1.alloc (.cells #[.int .u8 (K:Int)] 5)) hgrow2
  have hM4:Mine w4 w1.heap.size v2 (zs++(K:Int)::(digs n.toNat).take 0):=by
   refine⟨by simpa using hown2,fun z hz=>?_⟩
   simp only[List.take_zero,List.mem_append,List.mem_singleton]at hz
   rcases hz with hz|rfl
   ·exact hmine.2 z hz
   ·omega
  clear hown2 hgrow2 hmine hK
  go_wp2_with fail
  go_loopw [5,23] (fun o i wr=>∃k:Nat,k≤K∧i=.int .i64 k∧Mine wr w1.heap.size o (zs++(K:Int)::(digs n.toNat).take k)∧Below w1.heap.size w1 wr) (fun _ i _=>K - (intOf i).toNat)
  case atStart=>exact⟨0,by omega,rfl,hM4,hb4⟩
  case round=>
   obtain⟨k,hk,rfl,hmi,hbr⟩:=hrel
   by_cases hlt:k<K
   ·go_wp2_with (at_builtin;refine zK _ rfl _ _ 59 59 rfl w1.heap.size 5 i0 (.int .u8 0) 1 1 underlying59 hi hz0 hz1 hz2 rfl _ _ _ rfl (hmi.1.alloc _) _ 1 _ rfl (zeJ _ _) ?c1 ?c2 ?c3 ?_)
    case c1=>simp only[List.length_append,List.length_cons,List.length_take,zaE];unfold maxLen;omega
    case c2=>simp only[List.length_append,List.length_cons,List.length_take,zaE];omega
    case c3=>have:=hbr.size;simp;omega
    intro v5 w5 hown5 hgrow5
    have hb5:Below w1.heap.size w1 w5:=zU (hbr.alloc hbr.size _) (by have:=hbr.size;simp;omega) (hmi.1.alloc (.cells #[.int .u8 (n / 2^(8*(K - 1 - k))%256)] 5)) hgrow5
    have hM5:Mine w5 w1.heap.size v5 (zs++(K:Int)::(digs n.toNat).take (k+1)):=by
     have hkd:k<(digs n.toNat).length:=by rw[zaE,HK.out];exact hlt
     have ed:=zmt n K k h0 HK.out hlt
     have et:(digs n.toNat).take (k+1)=(digs n.toNat).take k++[n / 2^(8*(K - 1 - k))%256]:=by
      rw[ed,List.take_succ_eq_append_getElem hkd,List.getD_eq_getElem?_getD,List.getElem?_eq_getElem hkd];rfl
     refine Mine.mk' _ hown5 ?_ ?_ (fun z hz=>?_)
     ·simp only[List.length_append,List.length_cons,List.length_take];omega
     ·rw[et];simp
     ·simp only[List.mem_append,List.mem_cons]at hz
      rcases hz with hz|rfl|hz
      ·exact h.2.1 z hz
      ·omega
      ·exact zev _ z (List.mem_of_mem_take hz)
    clear hown5 hgrow5 hmi
    go_wp2_with fail
    go_roundw
    case rel=>exact⟨k+1,by omega,by go_num,hM5,hb5⟩
    case measure=>simp[intOf];omega
   ·obtain rfl:k=K:=by omega
    have e:zs++putL n=zs++(k:Int)::(digs n.toNat).take k:=by
     rw[HP.out,List.take_of_length_le (by rw[zaE,HK.out];exact Nat.le_refl _)]
    go_wp2_with fail
    go_ret
    rw[e]
    exact⟨_,rfl,hmi,hbr⟩
theorem zaR (w:World):RowAt w none []:=⟨by simp,by simp,Or.inl rfl⟩
def strL (s:ByteArray):List Int:=s.data.toList.map fun b=>(b.toNat:Int)
theorem zN (s:ByteArray):(strL s).length=s.size:=by unfold strL;rw[List.length_map,Array.length_toList];rfl
theorem zbt (s:ByteArray):∀z∈strL s,0≤z∧z<256:=by
 intro z hz
 obtain⟨b,_,rfl⟩:=List.mem_map.1 hz
 have:=b.toNat_lt
 omega
theorem zfj (s:ByteArray) (w:World):Src prog 1 9 (.string s) s.size ((strL s).map (Value.int .u8)) w:=by
 have:=Src.ofString w (P:=prog) underlying9 s
 have e:(strL s).map (Value.int .u8)=byteCells s:=by unfold strL byteCells;rw[List.map_map];rfl
 rw[e];exact this
def textL (s:ByteArray):List Int:=putL s.size++strL s
theorem zd1 (a:Option Addr) (cap:Nat) (zs:List Int) (s:ByteArray) (w:World) (h:RowAt w a zs) (hm:zs.length≤1099511627) (hs:s.size≤1099511627):
  Calls prog 48 #[.slice a zs.length cap,.string s] w fun e w'=>∃v,e=.returned v∧Mine w' w.heap.size v (zs++textL s)∧Below w.heap.size w w':=by
 obtain⟨i0,hi,hz0,hz1,hz2⟩:=zW zat
 have hpl:=zab (s.size:Int) (by omega)
 have hpb:=zaJ (s.size:Int) (by omega)
 have cs:=fun w=>zdO (s.size:Int) w (by omega)
 have cp:=fun w=>zbx none 0 [] (s.size:Int) w (zaR w) (by simp) (by omega)
 rw[List.nil_append]at cp
 have HT:Hid (textL s=putL s.size++strL s):=rfl
 have HSL:Hid ((strL s).length=s.size):=zN s
 generalize putL (s.size:Int)=ps at *
 go_enter func48,ntmps48
 go_wp2_with fail
 refine(cs _).mono ?_
 rintro e w1 ⟨rfl,rfl⟩
 have cr:=zdU a cap zs (ps.length+s.size) w1 h (by omega)
 have ec:((ps.length+s.size:Nat):Int)=(ps.length:Int)+(s.size:Int):=by omega
 rw[ec]at cr
 clear ec
 go_wp2_with fail
 refine cr.mono ?_
 rintro e w2 ⟨v,rfl,hmine,hb⟩
 clear cr cs
 go_wp2_with fail
 refine(cp _).mono ?_
 rintro e w3 ⟨v3,rfl,hm3,hb3⟩
 clear cp
 obtain⟨a3,cap3,rfl,hc31,hc32,hr3⟩:=hm3.rowAt (by unfold maxLen;omega)
 have hmine3:=hmine.below hb3
 have hb3':Below w1.heap.size w1 w3:=hb.trans (hb3.mono hb.size)
 go_wp2_with (at_builtin;refine zK _ rfl _ _ 59 59 rfl w1.heap.size 5 i0 (.int .u8 0) 1 1 underlying59 hi hz0 hz1 hz2 rfl _ zs.length _ rfl hmine3.1 _ ps.length _ rfl (hr3.src cap3) ?c1 ?c2 ?c3 ?_)
 case c1=>unfold maxLen;omega
 case c2=>omega
 case c3=>exact hb3'.size
 intro v4 w4 hown4 hgrow4
 have hb4:=zU hb3' hb3'.size hmine3.1 hgrow4
 go_wp2_with (at_builtin;refine zK _ rfl _ _ 59 9 rfl w1.heap.size 5 i0 (.int .u8 0) 1 1 underlying59 hi hz0 hz1 hz2 rfl _ (zs.length+ps.length) _ rfl hown4 _ s.size _ rfl (zfj s _) ?e1 ?e2 ?e3 ?_)
 case e1=>unfold maxLen;omega
 case e2=>omega
 case e3=>exact hb4.size
 intro v5 w5 hown5 hgrow5
 have hb5:=zU hb4 hb4.size hown4 hgrow5
 have hM:Mine w5 w1.heap.size v5 (zs++textL s):=by
  rw[HT.out]
  refine Mine.mk' _ hown5 ?_ ?_ (fun z hz=>?_)
  ·simp only[List.length_append,HSL.out];omega
  ·simp[v8]
  ·simp only[List.mem_append]at hz
   rcases hz with hz|hz|hz
   ·exact h.2.1 z hz
   ·exact hpb z hz
   ·exact zbt s z hz
 clear hown5 hgrow5 hown4 hgrow4
 go_wp2_with fail
 go_ret
 exact⟨_,rfl,hM,hb5⟩
theorem zkp (w:World) (x:Value) (B:Nat) (hB:B≤w.heap.size):(w.alloc (.cells #[x] 5)).ownsRow B 5 1 (.slice (some ⟨w.heap.size,0,none⟩) 1 1) 1 [x]:=
 ⟨by simp,.inr ⟨w.heap.size,1,#[x],rfl,hB,heap_alloc_new w _,Nat.le_refl _,by unfold maxLen;omega,by simp,by simp⟩⟩
theorem zms (n:Int) (w:World) (h0:0≤n) (h1:n≤9223372036854775807):
  Calls prog 79 #[.int .i64 n] w fun e w'=>∃v,e=.returned v∧Mine w' w.heap.size v (digs n.toNat)∧Below w.heap.size w w':=by
 obtain⟨i0,hi,hz0,hz1,hz2⟩:=zW zat
 have hwl:=zbe n.toNat (by omega)
 have HL:Hid ((digs n.toNat).length≤8):=by show _≤_;rw[zaE];exact hwl
 clear hwl
 go_enter func79,ntmps79
 go_wp2_with fail
 go_loopw [0,3] (fun q o wr=>∃(m:Int) (os:List Int),0≤m∧m≤9223372036854775807∧q=.int .i64 m∧Hid (digs n.toNat=digs m.toNat++os)∧Mine wr w.heap.size o os∧Below w.heap.size w wr) (fun q _ _=>(intOf q).toNat)
 case atStart=>exact⟨n,[],h0,h1,rfl,by show _=_;simp,⟨World.ownsRow_nil _ _ _ _,by simp⟩,Below.refl _ _⟩
 case round=>
  obtain⟨m,os,hm0,hm1,rfl,hd,hmi,hbr⟩:=hrel
  have hol:os.length≤8:=by
   have:=congrArg List.length hd.out
   have:=HL.out
   rw[List.length_append]at*
   omega
  obtain⟨a,cap,rfl,_,_,hro⟩:=hmi.rowAt (by unfold maxLen;omega)
  by_cases hlt:0<m
  ·have hr':=(hro.below ((Below.refl wr.heap.size wr).alloc (Nat.le_refl _) (.cells #[.int .u8 (m%256)] 5))).src cap
   go_wp2_with (at_builtin;refine zK _ rfl _ _ 59 59 rfl w.heap.size 5 i0 (.int .u8 0) 1 1 underlying59 hi hz0 hz1 hz2 rfl _ 1 _ rfl (zkp wr _ w.heap.size hbr.size) _ os.length _ rfl hr' ?c1 ?c2 ?c3 ?_)
   case c1=>unfold maxLen;omega
   case c2=>omega
   case c3=>have:=hbr.size;simp;omega
   intro v1 w1 hown1 hgrow1
   have hb1:Below w.heap.size w w1:=(hbr.alloc hbr.size _).grown hgrow1 (by have:=hbr.size;simp;omega) (fun k hk=>by simp[Value.ownBlock]at hk;have:=hbr.size;omega)
   have hM1:Mine w1 w.heap.size v1 ((m%256)::os):=by
    refine Mine.mk' _ hown1 (by simp;omega) rfl (fun z hz=>?_)
    simp only[List.mem_cons]at hz
    rcases hz with rfl|hz
    ·omega
    ·exact hmi.2 z hz
   have HD:Hid (digs n.toNat=digs (m / 256).toNat++(m%256::os)):=by
    show _=_
    have e1:m.toNat / 256=(m / 256).toNat:=by omega
    have e2:((m.toNat%256:Nat):Int)=m%256:=by omega
    rw[hd.out,zhn m.toNat (by omega) (by omega),e1,e2,List.append_assoc]
    rfl
   clear hown1 hgrow1 hr' hmi
   go_wp2_with fail
   go_roundw
   case rel=>exact⟨m / 256,m%256::os,by omega,by omega,rfl,HD,hM1,hb1⟩
   case measure=>simp[intOf];omega
  ·obtain rfl:m=0:=by omega
   have e:Hid (digs n.toNat=os):=by
    have:=hd.out
    show _=_
    rw[this];show digs 0++os=os;rw[zeu];rfl
   go_wp2_with fail
   go_ret
   rw[e.out]
   exact⟨_,rfl,hmi,hbr⟩
theorem zfZ (a:Option Addr) (cap:Nat) (zs:List Int) (n:Int) (w:World) (h:RowAt w a zs) (hm:zs.length≤1099511627) (hn:n≤9223372036854775807):
  Calls prog 51 #[.slice a zs.length cap,.int .i64 n] w fun e w'=>∃v,e=.returned v∧Mine w' w.heap.size v (zs++putL n)∧Below w.heap.size w w':=by
 obtain⟨i0,hi,hz0,hz1,hz2⟩:=zW zat
 have hsrc:=(h.below ((Below.refl w.heap.size w).alloc (Nat.le_refl _) (.cells #[] 5))).src cap
 by_cases h0:n<0
 ·have HP:Hid (putL n=[]):=by show _=_;simp[putL,h0]
  go_enter func51,ntmps51
  go_wp2_with (at_builtin;refine zK _ rfl _ _ 59 59 rfl w.heap.size 5 i0 (.int .u8 0) 1 1 underlying59 hi hz0 hz1 hz2 rfl _ 0 [] rfl (World.ownsRow_made w #[] 0 (Nat.le_refl _) (by simp) (by simp)) _ zs.length _ rfl hsrc ?c1 ?c2 ?c3 ?_)
  case c1=>unfold maxLen;omega
  case c2=>omega
  case c3=>simp
  intro v1 w1 hown1 hgrow1
  have hb1:Below w.heap.size w w1:=((Below.refl _ _).alloc (Nat.le_refl _) _).grown hgrow1 (by simp) (fun k hk=>by simp[Value.ownBlock]at hk;omega)
  have hM1:Mine w1 w.heap.size v1 zs:=⟨by simpa [v8]using hown1,h.2.1⟩
  go_wp2_with fail
  go_ret
  rw[HP.out,List.append_nil]
  exact⟨_,rfl,hM1,hb1⟩
 ·have HP:Hid (putL n=(wid n.toNat:Int)::digs n.toNat):=by show _=_;simp[putL,h0,numB]
  have hw:=zbe n.toNat (by omega)
  have hdl:=zaE n.toNat
  have hdb:=zev n.toNat
  have cd:=fun w=>zms n w (by omega) hn
  generalize digs n.toNat=D at *
  generalize hK:wid n.toNat=K at *
  have hdl':D.length=K:=hdl
  subst hdl'
  clear hK hdl
  go_enter func51,ntmps51
  go_wp2_with (at_builtin;refine zK _ rfl _ _ 59 59 rfl w.heap.size 5 i0 (.int .u8 0) 1 1 underlying59 hi hz0 hz1 hz2 rfl _ 0 [] rfl (World.ownsRow_made w #[] 0 (Nat.le_refl _) (by simp) (by simp)) _ zs.length _ rfl hsrc ?c1 ?c2 ?c3 ?_)
  case c1=>unfold maxLen;omega
  case c2=>omega
  intro v1 w1 hown1 hgrow1
  have hb1:Below w.heap.size w w1:=((Below.refl _ _).alloc (Nat.le_refl _) _).grown hgrow1 (by simp) (fun k hk=>by simp[Value.ownBlock]at hk;omega)
  have hM1:Mine w1 w.heap.size v1 zs:=⟨by simpa [v8]using hown1,h.2.1⟩
  clear hown1 hgrow1 hsrc
  go_wp2_with fail
  refine(cd _).mono ?_
  rintro e w2 ⟨v2,rfl,hM2,hb2⟩
  clear cd
  obtain⟨a2,cap2,rfl,_,_,hr2⟩:=hM2.rowAt (by unfold maxLen;omega)
  have hM1':=hM1.below hb2
  have hb2':Below w.heap.size w w2:=hb1.trans (hb2.mono hb1.size)
  go_wp2_with (at_builtin;refine zK _ rfl _ _ 59 59 rfl w.heap.size 5 i0 (.int .u8 0) 1 1 underlying59 hi hz0 hz1 hz2 rfl _ zs.length _ rfl (hM1'.1.alloc _) _ 1 _ rfl (zeJ _ _) ?d1 ?d2 ?d3 ?_)
  case d1=>unfold maxLen;omega
  case d2=>omega
  case d3=>have:=hb2'.size;simp;omega
  intro v3 w3 hown3 hgrow3
  have hb3:Below w.heap.size w w3:=zU (hb2'.alloc hb2'.size _) (by have:=hb2'.size;simp;omega) (hM1'.1.alloc (.cells #[.int .u8 (D.length:Int)] 5)) hgrow3
  have hr3:RowAt w3 a2 D:=by
   have hga:=hr2.below ((Below.refl w2.heap.size w2).alloc (Nat.le_refl _) (.cells #[.int .u8 (D.length:Int)] 5))
   refine⟨hga.1,hga.2.1,?_⟩
   rcases hga.2.2 with hx|⟨b,off,rfl,hb,hc⟩
   ·exact Or.inl hx
   ·refine Or.inr ⟨b,off,rfl,Nat.lt_of_lt_of_le hb hgrow3.size,fun j u hu=>hgrow3.cell (hc j u hu) ?_⟩
    have hl1:=(hM2.1.lt b rfl).1
    intro hcon
    have hl2:=(hM1.1.lt b hcon.symm).2
    have:=hM1.1.lt b hcon.symm
    omega
  go_wp2_with (at_builtin;refine zK _ rfl _ _ 59 59 rfl w.heap.size 5 i0 (.int .u8 0) 1 1 underlying59 hi hz0 hz1 hz2 rfl _ (zs.length+1) _ rfl hown3 _ D.length _ rfl (hr3.src cap2) ?e1 ?e2 ?e3 ?_)
  case e1=>unfold maxLen;omega
  case e2=>omega
  case e3=>exact hb3.size
  intro v4 w4 hown4 hgrow4
  have hb4:=zU hb3 hb3.size hown3 hgrow4
  have hM4:Mine w4 w.heap.size v4 (zs++putL n):=by
   rw[HP.out]
   refine Mine.mk' _ hown4 (by simp;omega) (by simp[v8]) (fun z hz=>?_)
   simp only[List.mem_append,List.mem_cons]at hz
   rcases hz with hz|rfl|hz
   ·exact h.2.1 z hz
   ·omega
   ·exact hdb z hz
  clear hown4 hgrow4 hown3 hgrow3
  go_wp2_with fail
  go_ret
  exact⟨_,rfl,hM4,hb4⟩
theorem zjW (a:Option Addr) (cap:Nat) (zs:List Int) (s:ByteArray) (w:World) (h:RowAt w a zs) (hm:zs.length≤1099511627) (hs:s.size≤1099511627):
  Calls prog 50 #[.slice a zs.length cap,.string s] w fun e w'=>∃v,e=.returned v∧Mine w' w.heap.size v (zs++textL s)∧Below w.heap.size w w':=by
 obtain⟨i0,hi,hz0,hz1,hz2⟩:=zW zat
 have hpl:=zab (s.size:Int) (by omega)
 have cp:=zfZ a cap zs (s.size:Int) w h hm (by omega)
 have HT:Hid (zs++textL s=(zs++putL s.size)++strL s):=by show _=_;unfold textL;rw[List.append_assoc]
 have HSL:Hid ((strL s).length=s.size):=zN s
 have hql:(zs++putL (s.size:Int)).length≤1099511627+9:=by rw[List.length_append];omega
 generalize zs++putL (s.size:Int)=qs at *
 go_enter func50,ntmps50
 go_wp2_with fail
 refine cp.mono ?_
 rintro e w1 ⟨v1,rfl,hM1,hb1⟩
 clear cp
 go_wp2_with (at_builtin;refine zK _ rfl _ _ 59 9 rfl w.heap.size 5 i0 (.int .u8 0) 1 1 underlying59 hi hz0 hz1 hz2 rfl _ qs.length _ rfl hM1.1 _ s.size _ rfl (zfj s _) ?e1 ?e2 ?e3 ?_)
 case e1=>unfold maxLen;omega
 case e2=>omega
 case e3=>exact hb1.size
 intro v5 w5 hown5 hgrow5
 have hb5:=zU hb1 hb1.size hM1.1 hgrow5
 have hM:Mine w5 w.heap.size v5 (zs++textL s):=by
  rw[HT.out]
  refine Mine.mk' _ hown5 ?_ ?_ (fun z hz=>?_)
  ·simp only[List.length_append,HSL.out]
  ·simp
  ·simp only[List.mem_append]at hz
   rcases hz with hz|hz
   ·exact hM1.2 z hz
   ·exact zbt s z hz
 clear hown5 hgrow5
 go_wp2_with fail
 go_ret
 exact⟨_,rfl,hM,hb5⟩
open Sha Tal
theorem hide {p:Prop} (h:p):Hid p:=h
def inB (n m:Int):Bool:=decide (0≤n∧n≤m)
theorem zlf {n m:Int} (h:¬(0≤n∧n≤m)):inB n m=false:=by unfold inB;exact decide_eq_false h
theorem zaf (n m:Int) (w:World):Calls prog 135 #[.int .i64 n,.int .i64 m] w fun e w'=>e=.returned (.bool (inB n m))∧w'=w:=by
 by_cases h:0≤n
 ·have e:inB n m=decide (n≤m):=by unfold inB;rw[decide_eq_decide];exact⟨fun x=>x.2,fun x=>⟨h,x⟩⟩
  rw[e];clear e
  go_enter func135,ntmps135
  go_wp2
  go_ret
  exact⟨rfl,rfl⟩
 ·rw[zlf (fun x=>h x.1)]
  go_enter func135,ntmps135
  go_wp2
  go_ret
  exact⟨rfl,rfl⟩
structure Vt where
 k:Int
 e:Int
 v:Int
 s:Int
 d:List Int
def Vt.cells (x:Vt):List Value:=.int .i64 x.k::.int .i64 x.e::.int .i64 x.v::.int .i64 x.s::v8 x.d
def Vt.may (x:Vt):Bool:=(decide (x.k=1)||decide (x.k=2))&&(inB x.e 1048576&&(inB x.v 1099511627776&&inB x.s 1099511627776))
theorem Vt.box (w:World) (x:Vt):(w.alloc (.cells x.cells.toArray 43)).rangeAt w.heap.size 0 x.cells:=by
 have:=zC w x.cells.toArray 43
 simpa using this
theorem Vt.four {w:World} {b i:Nat} {x:Vt} (h:w.rangeAt b i x.cells):w.cell? ⟨b,i,none⟩=some (.int .i64 x.k)∧w.cell? ⟨b,i+1,none⟩=some (.int .i64 x.e)∧w.cell? ⟨b,i+2,none⟩=some (.int .i64 x.v)∧w.cell? ⟨b,i+3,none⟩=some (.int .i64 x.s):=
 ⟨h 0 _ rfl,h 1 _ rfl,h 2 _ rfl,h 3 _ rfl⟩
theorem zdx (x:Vt) (w:World):Calls prog 136 #[.agg x.cells.toArray] w fun e w'=>e=.returned (.bool x.may)∧Below w.heap.size w w':=by
 obtain⟨k,ep,vi,sl,d⟩:=x
 have hB1:Below w.heap.size w (w.alloc (.cells (Vt.mk k ep vi sl d).cells.toArray 43)):=(Below.refl _ _).alloc (Nat.le_refl _) _
 obtain⟨c0,c1,c2,c3⟩:=Vt.four (Vt.box w ⟨k,ep,vi,sl,d⟩)
 simp only[Nat.zero_add]at c1 c2 c3
 have E:(Vt.mk k ep vi sl d).may=((decide (k=1)||decide (k=2))&&(inB ep 1048576&&(inB vi 1099511627776&&inB sl 1099511627776))):=rfl
 rw[E];clear E
 generalize (Vt.mk k ep vi sl d).cells=q at *
 have hk:k=1∨(k≠1∧k=2)∨(k≠1∧k≠2):=by omega
 rcases hk with rfl|⟨hk,rfl⟩|⟨hk,hk'⟩
 rotate_right
 ·rw[decide_eq_false hk,decide_eq_false hk']
  have n1:(k !=1)=true:=bne_iff_ne.2 hk
  have n2:(k !=2)=true:=bne_iff_ne.2 hk'
  have e1:(k==1)=false:=beq_eq_false_iff_ne.2 hk
  have e2:(k==2)=false:=beq_eq_false_iff_ne.2 hk'
  clear hk hk'
  go_enter func136,ntmps136
  go_wp2
  go_ret
  exact⟨rfl,hB1⟩
 all_goals
  try clear hk
  cases he:inB ep 1048576
  ·go_enter func136,ntmps136
   go_wp2_with (go_at_call 135;refine(zaf _ _ _).mono ?_;rintro e1 w1 ⟨rfl,rfl⟩;try rw[he])
   go_ret
   exact⟨rfl,hB1⟩
  ·cases hv:inB vi 1099511627776
   ·go_enter func136,ntmps136
    go_wp2_with (go_at_call 135;refine(zaf _ _ _).mono ?_;rintro e1 w1 ⟨rfl,rfl⟩;(first|rw[he]|rw[hv]))
    go_ret
    exact⟨rfl,hB1⟩
   ·cases hs:inB sl 1099511627776
    all_goals
     go_enter func136,ntmps136
     go_wp2_with (go_at_call 135;refine(zaf _ _ _).mono ?_;rintro e1 w1 ⟨rfl,rfl⟩;(first|rw[he]|rw[hv]|rw[hs]))
     go_ret
     exact⟨rfl,hB1⟩
open Go Go.RowKit
section
variable {P : Program} (w : World)
theorem zdS (base:Nat) (t tx ty e:TypeId) (i:TypeInfo) (z:Value) (size bytes:Nat) (ht:P.underlying t=some (.slice e)) (hi:P.info? e=some i) (hz:i.zero=some z)
    (hsize:i.size=size) (hby:i.bytes=bytes) (hzs:z.cells.size=size)
    (v:Value) (n:Nat) (xs:List Value) (hown:w.ownsRow base e size v n xs)
    (x:Value) (m:Nat) (news:List Value) (hs:Src P size tx x m news w)
    (h63:n+m≤maxLen) (hbytes:(n+m)*bytes≤140737488355328) (hbase:base≤w.heap.size):
    ∃v' w',(Builtin.append_ #[t,tx] ty #[v,x]).run P w=.ok v' w'∧w'.ownsRow base e size v' (n+m) (xs++news)∧w.grownBy w' v.ownBlock∧(∀g,v'.ownBlock=some g→v.ownBlock=some g∨g=w.heap.size):=by
  subst hsize
  subst hby
  have hl:=hs.newsLen
  have hlen:(xs++news).length=(n+m)*i.size:=by rw[List.length_append,hown.1,hl,Nat.add_mul]
  have grown : ∀ (old : Nat), old < n + m → ∀ (row : Option Nat),
      (w.drew.alloc (.cells ((xs++news).toArray++Builtin.zeroCells z.cells (grownCap w (n+m) old e - (n+m))) e)).ownsRow base e i.size
        (.slice (some ⟨w.heap.size,0,none⟩) (n+m) (grownCap w (n+m) old e)) (n+m) (xs++news)∧
      w.grownBy (w.drew.alloc (.cells ((xs++news).toArray++Builtin.zeroCells z.cells (grownCap w (n+m) old e - (n+m))) e)) row:=by
    intro old ho row
    have hge:=grownCap_ge w (n+m) old e
    have hcm:grownCap w (n+m) old e≤maxLen:=grownCap_le_maxLen w (n+m) old e h63
    refine⟨⟨hlen,.inr ⟨w.heap.size,_,_,rfl,hbase,heap_alloc_new w.drew _,hge,hcm,?_,?_⟩⟩,⟨rfl,rfl,rfl,by simp,fun k hk _=>Below.heap_alloc w.drew _ k hk⟩⟩
    · simp only[Array.size_append,List.size_toArray,size_zeroCells,hzs,hlen,←Nat.add_mul]
      congr 1
      omega
    · simp only[Array.toList_append]
      rw[←hlen]
      exact List.take_left
  have h63':((n+m:Nat):Int)≤9223372036854775807:=by simp only[maxLen]at h63;omega
  rcases hown.2 with⟨rfl,rfl⟩|⟨g,cap,cur,rfl,hbg,hg,hnc,hcm,hcs,htake⟩
  · have hx:xs=[]:=List.eq_nil_of_length_eq_zero (by simpa using hown.1)
    subst hx
    by_cases hm:m=0
    · subst hm
      have hn:news=[]:=List.eq_nil_of_length_eq_zero (by simpa using hl)
      subst hn
      refine⟨.slice none 0 0,w,?_,World.ownsRow_nil w base e i.size,⟨rfl,rfl,rfl,Nat.le_refl _,fun _ _ _=>rfl⟩,fun g hg=>by simp[Value.ownBlock]at hg⟩
      have hc:=hs.cells
      rcases hs.kind with⟨e',hk⟩|hk<;>simp[Builtin.append_,run_underlying ht,run_underlying hk,sizeOf,typeInfo,hi,hs.len,hc]
    · have hr:=run_append_grow_src (P:=P) w t tx ty e i z ht hi hz none 0 0 [] (run_firstCells_none w.drew i.size 0 0 0) x m news hs (by omega) (by simpa using h63') (growslice_fits (by omega) (by simpa using hbytes))
      have hgr:=grown 0 (by omega) (Value.ownBlock (.slice none 0 0))
      exact⟨_,_,hr,hgr.1,hgr.2,fun g hg=>Or.inr (by simpa [Value.ownBlock]using hg.symm)⟩
  · by_cases hroom:n+m≤cap
    · have hfit:n*i.size+news.length≤cur.size:=by rw[hl,hcs,←Nat.add_mul];exact Nat.mul_le_mul_right _ hroom
      have hst:=run_storeCells_at P g (n*i.size) e news 0 cur w hg (by simpa using hfit) hs.one
      simp only[Nat.add_zero]at hst
      have hr:(Builtin.append_ #[t,tx] ty #[.slice (some ⟨g,0,none⟩) n cap,x]).run P w=.ok (.slice (some ⟨g,0,none⟩) (n+m) cap) (w.setRow g (cur.toList.take (n*i.size)++news++cur.toList.drop (n*i.size+news.length)).toArray):=by
        rcases hs.kind with⟨e',hk⟩|hk<;>simp[Builtin.append_,run_underlying ht,run_underlying hk,sizeOf,typeInfo,hi,hs.len,hroom,hs.cells,Addr.add_lit,hst]
      refine⟨_,_,hr,⟨hlen,.inr ⟨g,cap,_,rfl,hbg,setRow_heap w g cur _ e _ hg,hroom,hcm,?_,?_⟩⟩,⟨rfl,rfl,rfl,by simp,fun k _ hk=>setRow_other w g k _ (fun e=>hk (by simp[Value.ownBlock,e]))⟩,fun g' hg'=>Or.inl (by simpa [Value.ownBlock]using hg')⟩
      · simp only[List.size_toArray,List.length_append,List.length_take,List.length_drop,Array.length_toList]
        omega
      · rw[htake,←hlen]
        exact List.take_left
    · have holds:∀j u,xs[j]? =some u→w.cell? ((⟨g,0,none⟩:Addr).add j)=some u:=hown.cells (g:=g) rfl
      have hr:=run_append_grow_src (P:=P) w t tx ty e i z ht hi hz (some ⟨g,0,none⟩) n cap xs (run_firstCells_some w.drew i.size n ⟨g,0,none⟩ n cap xs hown.1 (by simpa using holds)) x m news hs (by omega) h63' (growslice_fits (by omega) hbytes)
      have hgr:=grown cap (by omega) (Value.ownBlock (.slice (some ⟨g,0,none⟩) n cap))
      exact⟨_,_,hr,hgr.1,hgr.2,fun g hg=>Or.inr (by simpa [Value.ownBlock]using hg.symm)⟩
theorem zij {ops:Array Oper} {rest:List Oper} {o:Oper} {a:Act} {Q:Exit→Act→World→Prop} (hgd:o.guard=none) (s x:Operand) (t tx:TypeId)
  (ho:o.op=.call {callee:=.builtin .append,args:=#[s,x],argTypes:=#[t,tx]})
  (base:Nat) (e:TypeId) (i:TypeInfo) (z:Value) (size bytes:Nat) (ht:P.underlying t=some (.slice e)) (hi:P.info? e=some i) (hz:i.zero=some z)
  (hsize:i.size=size) (hby:i.bytes=bytes) (hzs:z.cells.size=size)
  (v:Value) (n:Nat) (xs:List Value) (hv:a.eval s=v) (hown:w.ownsRow base e size v n xs)
  (xv:Value) (m:Nat) (news:List Value) (hx:a.eval x=xv) (hs:Src P size tx xv m news w)
  (h63:n+m≤maxLen) (hbytes:(n+m)*bytes≤140737488355328) (hbase:base≤w.heap.size)
  (h:∀v' w',w'.ownsRow base e size v' (n+m) (xs++news)→w.grownBy w' v.ownBlock→(∀g,v'.ownBlock=some g→v.ownBlock=some g∨g=w.heap.size)→wpList P ops Q rest (a.put o.dst v') w'):wpList P ops Q (o::rest) a w:=by
 refine wpList_plain hgd fun K hK=>?_
 obtain⟨v',w',hr,h2,h3,h4⟩:=zdS (P:=P) w base t tx o.type e i z size bytes ht hi hz hsize hby hzs v n xs hown xv m news hs h63 hbytes hbase
 unfold Oper.wp execOp
 simp only[ho,resolve,invoke,builtin,Sem.run_bind,Sem.run_pure,Result.andThen_ok,List.map_toArray,List.map_cons,List.map_nil,hv,hx,hr]
 exact hK _ _ (h v' w' h2 h3 h4)
end
end Go.Proofs.YtcbpbkefggekmaaGreatDoor
namespace Go.Proofs.YtcbpbkefggekmaaGreatDoor
open Go Go.RowKit
def Off (F:Nat→Prop) (w w':World):Prop:=Below 0 w w'∧∀b,b<w.heap.size→¬F b→w'.heap[b]? =w.heap[b]?
theorem Off.refl (F:Nat→Prop) (w:World):Off F w w:=⟨Below.refl _ _,fun _ _ _=>rfl⟩
theorem Off.size {F:Nat→Prop} {w w':World} (h:Off F w w'):w.heap.size≤w'.heap.size:=h.1.size
theorem Off.trans {F G:Nat→Prop} {w w1 w2:World} (h:Off F w w1) (k:Off G w1 w2) (hG:∀b,b<w.heap.size→G b→F b):Off F w w2:=
 ⟨h.1.trans k.1,fun b hb hf=>(k.2 b (Nat.lt_of_lt_of_le hb h.size) (fun hg=>hf (hG b hb hg))).trans (h.2 b hb hf)⟩
theorem Off.of_below {F:Nat→Prop} {w w':World} (h:Below w.heap.size w w'):Off F w w':=⟨h.mono (Nat.zero_le _),fun b hb _=>h.block b hb⟩
theorem Off.of_grown {F:Nat→Prop} {w w':World} {row:Option Nat} (h:w.grownBy w' row) (hF:∀k,row=some k→F k):Off F w w':=
 ⟨⟨h.os,h.tape,h.output,h.size,fun k hk=>absurd hk (Nat.not_lt_zero k)⟩,fun b hb hf=>h.block b hb (fun e=>hf (hF b e.symm))⟩
theorem Off.of_setCell {F:Nat→Prop} (w:World) (p:Addr) (u:Value) (hF:F p.block):Off F w (w.setCell p u):=
 ⟨⟨rfl,rfl,rfl,by simp[World.setCell],fun k hk=>absurd hk (Nat.not_lt_zero k)⟩,fun b _ hf=>Below.heap_setCell _ _ _ _ (fun e=>hf (e▸hF))⟩
theorem Off.below {F:Nat→Prop} {w w':World} (h:Off F w w') {n:Nat} (hn:n≤w.heap.size) (hF:∀b,b<n→¬F b):Below n w w':=
 ⟨h.1.os,h.1.tape,h.1.output,h.1.size,fun k hk=>h.2 k (Nat.lt_of_lt_of_le hk hn) (hF k hk)⟩
theorem Off.below_r {F:Nat→Prop} {w w1 w2:World} (h:Off F w w1) (k:Below w1.heap.size w1 w2):Off F w w2:=
 h.trans (Off.of_below (F:=fun _=>False) k) (fun _ _ hx=>hx.elim)
theorem zcg {w w':World} {b o:Nat} {cs:List Value} (h:w.rangeAt b o cs) (hb:w'.heap[b]? =w.heap[b]?):w'.rangeAt b o cs:=fun j v hv=>by
 have:=h j v hv
 rw[←this]
 simp[World.cell?,hb]
theorem zkl {w w':World} {base:Nat} {e:TypeId} {size:Nat} {v:Value} {n:Nat} {xs:List Value} (h:w.ownsRow base e size v n xs) (hb:∀g,v.ownBlock=some g→w'.heap[g]? =w.heap[g]?):w'.ownsRow base e size v n xs:=by
 refine⟨h.1,?_⟩
 rcases h.2 with h1|⟨g,cap,cur,rfl,h2,h3,h4⟩
 ·exact .inl h1
 ·exact .inr ⟨g,cap,cur,rfl,h2,by rw[hb g rfl];exact h3,h4⟩
open Go.RowKit
open Sha Tal
structure WrAt (w:World) (X:Nat) (v:Value) (zs:List Int) (lg:Bool):Prop where
 lt:X<w.heap.size
 c0:w.cell? ⟨X,0,none⟩=some v
 c1:w.cell? ⟨X,1,none⟩=some (.bool lg)
 th:w.there X 0 2
 me:Mine w (X+1) v zs
theorem WrAt.f0 {w:World} {X:Nat} {v:Value} {zs:List Int} {lg:Bool} (h:WrAt w X v zs lg):w.frozen? ⟨X,0,none⟩=false:=by
 have:=(h.th 0 (by omega)).2
 simpa using this
theorem WrAt.f1 {w:World} {X:Nat} {v:Value} {zs:List Int} {lg:Bool} (h:WrAt w X v zs lg):w.frozen? ⟨X,1,none⟩=false:=by
 have:=(h.th 1 (by omega)).2
 simpa using this
theorem Mine.far {w w':World} {B:Nat} {v:Value} {zs:List Int} (h:Mine w B v zs) (hb:∀g,v.ownBlock=some g→w'.heap[g]? =w.heap[g]?):Mine w' B v zs:=⟨zkl h.1 hb,h.2⟩
theorem Mine.from {w:World} {B:Nat} {v:Value} {zs:List Int} (h:Mine w B v zs) (g:Nat) (hg:v.ownBlock=some g):B≤g∧g<w.heap.size:=by
 rcases h.1.2 with⟨rfl,_⟩|⟨g',cap,cur,rfl,h2,h3,h4⟩
 ·simp[Value.ownBlock]at hg
 ·simp[Value.ownBlock]at hg
  subst hg
  exact⟨h2,(Array.getElem?_eq_some_iff.1 h3).1⟩
theorem WrAt.flag {w:World} {X:Nat} {v:Value} {zs:List Int} {lg:Bool} (h:WrAt w X v zs lg) (b:Bool):WrAt (w.setCell ⟨X,1,none⟩ (.bool b)) X v zs b where
 lt:=by simpa [World.setCell]using h.lt
 c0:=by exact(World.cell?_setCell_other (w:=w) (h:=(by simp)) ..).trans h.c0
 c1:=World.cell?_setCell_same (w:=w) (h:=h.c1) ..
 th:=zP h.th _ _
 me:=h.me.far (fun g hg=>Below.heap_setCell _ _ _ _ (by have:=(h.me.from g hg).1;show g≠X;omega))
def fullB (lg:Bool) (n:Int) (zs:List Int):Bool:=lg||decide (4194304 - (zs.length:Int)<n)
theorem zfT (X:Nat) (v:Value) (zs:List Int) (lg:Bool) (n:Int) (w:World) (h:WrAt w X v zs lg) (hm:zs.length≤4194304):
  Calls prog 146 #[.pointer (some ⟨X,0,none⟩),.int .i64 n] w fun e w'=>e=.returned (.bool (!(fullB lg n zs)))∧w'=w.setCell ⟨X,1,none⟩ (.bool (fullB lg n zs)):=by
 have fz:=h.f1
 obtain⟨hX,c0,c1,_,hM⟩:=h
 obtain⟨a,cap,rfl,hc,hc',hR⟩:=hM.rowAt (by unfold maxLen;omega)
 clear hM hR
 cases lg
 ·have E:fullB false n zs=decide (4194304 - (zs.length:Int)<n):=by unfold fullB;rw[Bool.false_or]
  rw[E];clear E
  go_enter func146,ntmps146
  go_wp2
  go_ret
  exact⟨rfl,rfl⟩
 ·have E:fullB true n zs=true:=by unfold fullB;rw[Bool.true_or]
  rw[E];clear E
  go_enter func146,ntmps146
  go_wp2
  go_ret
  exact⟨rfl,rfl⟩
def WrF (X:Nat) (v:Value):Nat→Prop:=fun b=>b=X∨v.ownBlock=some b
def RowOn (w:World) (v v':Value):Prop:=∀g,v'.ownBlock=some g→v.ownBlock=some g∨w.heap.size≤g
open Go.RowKit
open Sha Tal
theorem RowAt.other {w:World} {a:Option Addr} {zs:List Int} {p:Addr} {u:Value} (h:RowAt w a zs) (hne:zs=[]∨∀x,a=some x→x.block≠p.block):RowAt (w.setCell p u) a zs:=by
 refine⟨h.1,h.2.1,?_⟩
 rcases h.2.2 with h0|⟨b,off,rfl,h1,h2⟩
 ·exact .inl h0
 ·rcases hne with h0|hne
  ·exact .inl h0
  ·exact .inr ⟨b,off,rfl,by simpa [World.setCell]using h1,zcg h2 (Below.heap_setCell _ _ _ _ (hne _ rfl))⟩
def wrL (zs bs:List Int) (b:Bool):List Int:=if b then zs else zs++bs
theorem zie (zs bs:List Int):wrL zs bs true=zs:=rfl
theorem zbL (zs bs:List Int):wrL zs bs false=zs++bs:=rfl
theorem zif {zs bs:List Int} {lg:Bool} (h:zs.length≤4194304):(wrL zs bs (fullB lg bs.length zs)).length≤4194304:=by
 cases hf:fullB lg bs.length zs
 ·unfold fullB at hf
  rw[Bool.or_eq_false_iff]at hf
  have:=of_decide_eq_false hf.2
  rw[zbL,List.length_append]
  omega
 ·exact h
theorem WrAt.row {w w':World} {X:Nat} {v v':Value} {zs zs':List Int} {lg:Bool} (h:WrAt w X v zs lg) (hg:w.grownBy w' v.ownBlock) (hn:Mine w' (X+1) v' zs'):WrAt (w'.setCell ⟨X,0,none⟩ v') X v' zs' lg:=by
 have hX:w'.heap[X]? =w.heap[X]? :=hg.block X h.lt (fun e=>by have:=(h.me.from X e.symm).1;omega)
 have cc:∀i,w'.cell? ⟨X,i,none⟩=w.cell? ⟨X,i,none⟩:=fun i=>by simp[World.cell?,hX]
 refine⟨by have:=h.lt;have:=hg.size;simp[World.setCell];omega,World.cell?_setCell_same (h:=(cc 0).trans h.c0) ..,?_,?_,?_⟩
 ·exact(World.cell?_setCell_other (w:=w') (h:=(by simp)) ..).trans ((cc 1).trans h.c1)
 ·exact zP (fun j hj=>by
   have:=h.th j hj
   rw[Nat.zero_add]at this ⊢
   exact⟨by rw[cc];exact this.1,(World.frozen?_of_block hX).trans this.2⟩) _ _
 ·exact hn.far (fun g hg=>Below.heap_setCell _ _ _ _ (by have:=(hn.from g hg).1;show g≠X;omega))
theorem zdX (X:Nat) (v:Value) (zs:List Int) (lg:Bool) (a:Option Addr) (cap:Nat) (bs:List Int) (w:World) (h:WrAt w X v zs lg) (hr:RowAt w a bs) (hne:bs=[]∨∀x,a=some x→x.block≠X) (hm:zs.length≤4194304):
  Calls prog 93 #[.pointer (some ⟨X,0,none⟩),.slice a bs.length cap] w fun e w'=>∃v',e=.returned (.tuple #[])∧WrAt w' X v' (wrL zs bs (fullB lg bs.length zs)) (fullB lg bs.length zs)∧Off (WrF X v) w w'∧RowOn w v v':=by
 obtain⟨i0,hi,hz0,hz1,hz2⟩:=zW zat
 have cr:=zfT X v zs lg bs.length w h hm
 have h1:=h.flag (fullB lg bs.length zs)
 have hO1:Off (WrF X v) w (w.setCell ⟨X,1,none⟩ (.bool (fullB lg bs.length zs))):=Off.of_setCell w _ _ (.inl rfl)
 have hr1:RowAt (w.setCell ⟨X,1,none⟩ (.bool (fullB lg bs.length zs))) a bs:=hr.other hne
 have hsz:(w.setCell ⟨X,1,none⟩ (.bool (fullB lg bs.length zs))).heap.size=w.heap.size:=by simp[World.setCell]
 have hfl:fullB lg bs.length zs=false→zs.length+bs.length≤4194304:=fun hf=>by
  unfold fullB at hf
  rw[Bool.or_eq_false_iff]at hf
  have:=of_decide_eq_false hf.2
  omega
 cases hf:fullB lg bs.length zs
 ·rw[hf]at cr h1 hO1 hr1 hsz
  simp only[Bool.not_false]at cr
  have hl:=hfl hf
  clear hf hfl
  rw[zbL]
  have f0:=h1.f0
  have c0:=h1.c0
  obtain⟨w1,hw1⟩:∃w1,w.setCell ⟨X,1,none⟩ (.bool false)=w1:=⟨_,rfl⟩
  rw[hw1]at cr h1 hO1 hr1 hsz f0 c0
  go_enter func93,ntmps93
  go_wp2_with fail
  refine cr.mono ?_
  rintro e1 w1' ⟨rfl,rfl⟩
  go_wp2_with (at_builtin;refine zij _ rfl _ _ 59 59 rfl (X+1) 5 i0 (.int .u8 0) 1 1 underlying59 hi hz0 hz1 hz2 rfl _ zs.length _ rfl h1.me.1 _ bs.length _ rfl (hr1.src cap) ?c1 ?c2 ?c3 ?_)
  case c1=>unfold maxLen;omega
  case c2=>omega
  case c3=>have:=h1.lt;omega
  intro v2 w2 hown hgr hon
  have hM:Mine w2 (X+1) v2 (zs++bs):=Mine.mk' _ hown (by simp) (by simp[v8]) (fun z hz=>by
   rcases List.mem_append.1 hz with hz|hz
   ·exact h1.me.2 z hz
   ·exact hr.2.1 z hz)
  have h2:=h1.row hgr hM
  have hX2:w2.heap[X]? =w1'.heap[X]? :=hgr.block X h1.lt (fun e=>by have:=(h1.me.from X e.symm).1;omega)
  have c2:w2.cell? ⟨X,0,none⟩=some v:=by rw[←c0];simp[World.cell?,hX2]
  have f2:w2.frozen? ⟨X,0,none⟩=false:=(World.frozen?_of_block hX2).trans f0
  have hO2:Off (WrF X v) w (w2.setCell ⟨X,0,none⟩ v2):=hO1.trans ((Off.of_grown (F:=WrF X v) hgr (fun k hk=>.inr hk)).trans (Off.of_setCell (F:=WrF X v) w2 _ _ (.inl rfl)) (fun _ _ q=>q)) (fun _ _ q=>q)
  have hon':RowOn w v v2:=fun g hg=>(hon g hg).imp id (fun e=>by omega)
  obtain⟨a2,cap2,rfl,_,_,_⟩:=hM.rowAt (by rw[List.length_append];unfold maxLen;omega)
  rw[List.length_append]at h2 hO2 hon'
  clear hown hgr hon hM c0 f0 cr h h1
  go_wp2_with fail
  go_end0
  exact⟨_,rfl,h2,hO2,hon'⟩
 ·rw[hf]at cr h1 hO1 hr1 hsz
  simp only[Bool.not_true]at cr
  clear hf hfl
  rw[zie]
  obtain⟨w1,hw1⟩:∃w1,w.setCell ⟨X,1,none⟩ (.bool true)=w1:=⟨_,rfl⟩
  rw[hw1]at cr h1 hO1
  go_enter func93,ntmps93
  go_wp2_with fail
  refine cr.mono ?_
  rintro e1 w1' ⟨rfl,rfl⟩
  go_wp2_with fail
  go_end0
  exact⟨v,rfl,h1,hO1,fun g hg=>.inl hg⟩
open Go.RowKit
open Sha Tal
theorem zF {X:Nat} {v v1 v2:Value} {w w1 w2:World} (h:Off (WrF X v) w w1) (r:RowOn w v v1) (h':Off (WrF X v1) w1 w2) (r':RowOn w1 v1 v2):Off (WrF X v) w w2∧RowOn w v v2:=by
 refine⟨h.trans h' (fun b hb hf=>?_),fun g hg=>?_⟩
 ·rcases hf with hf|hf
  ·exact .inl hf
  ·rcases r b hf with e|e
   ·exact .inr e
   ·omega
 ·rcases r' g hg with e|e
  ·exact r g e
  ·exact .inr (Nat.le_trans h.size e)
theorem WrAt.below {w w':World} {X:Nat} {v:Value} {zs:List Int} {lg:Bool} (h:WrAt w X v zs lg) (hb:Below w.heap.size w w'):WrAt w' X v zs lg:=
 ⟨Nat.lt_of_lt_of_le h.lt hb.size,(hb.cell (p:=⟨X,0,none⟩) h.lt).trans h.c0,(hb.cell (p:=⟨X,1,none⟩) h.lt).trans h.c1,zg h.th hb h.lt,h.me.below hb⟩
theorem Mine.fresh {w:World} {B:Nat} {a:Option Addr} {n cap:Nat} {zs:List Int} (h:Mine w B (.slice a n cap) zs) (x:Addr) (hx:a=some x):B≤x.block:=by
 rcases za7 h.1 with⟨e,_⟩|⟨g,cap',e,hB,_⟩
 ·injection e with e1;rw[e1]at hx;cases hx
 ·injection e with e1;rw[e1]at hx;cases hx;exact hB
def wrS (s:List Int ×Bool) (bs:List Int):List Int ×Bool:=(wrL s.1 bs (fullB s.2 bs.length s.1),fullB s.2 bs.length s.1)
def wrN (s:List Int ×Bool) (ns:List Int):List Int ×Bool:=ns.foldl (fun s n=>wrS s (putL n)) s
theorem zic {s:List Int ×Bool} (bs:List Int) (h:s.1.length≤4194304):(wrS s bs).1.length≤4194304:=zif h
theorem zdv (ns:List Int):∀s:List Int ×Bool,s.1.length≤4194304→(wrN s ns).1.length≤4194304:=by
  induction ns with
  |nil=>intro s h;exact h
  |cons n r ih=>intro s h;exact ih _ (zic _ h)
theorem zid (ns:List Int) (s:List Int ×Bool) (k:Nat) (hk:k<ns.length):wrN s (ns.take (k+1))=wrS (wrN s (ns.take k)) (putL (ns.getD k 0)):=by
 unfold wrN
 have:ns.take (k+1)=ns.take k++[ns.getD k 0]:=by
  rw[List.take_add_one];simp[List.getElem?_eq_getElem hk,List.getD_eq_getElem?_getD]
 rw[this,List.foldl_append];rfl
theorem zgx (X:Nat) (v:Value) (s:List Int ×Bool) (b off cap:Nat) (ns:List Int) (w:World) (h:WrAt w X v s.1 s.2) (hl:ns.length≤1000) (hn:∀n∈ns,n≤9223372036854775807) (hb:b<w.heap.size) (hr:w.rangeAt b off (ns.map (Value.int .i64))) (hne:¬WrF X v b) (hm:s.1.length≤4194304):
  Calls prog 87 #[.pointer (some ⟨X,0,none⟩),.slice (some ⟨b,off,none⟩) ns.length cap] w fun e w'=>∃v',e=.returned (.tuple #[])∧WrAt w' X v' (wrN s ns).1 (wrN s ns).2∧Off (WrF X v) w w'∧RowOn w v v':=by
 go_enter func87,ntmps87
 go_wp2_with fail
 go_loopw [8] (fun iv wr'=>∃k:Nat,k≤ns.length∧iv=.int .i64 (k:Int)∧Hid (∃v',WrAt wr' X v' (wrN s (ns.take k)).1 (wrN s (ns.take k)).2∧Off (WrF X v) w wr'∧RowOn w v v')) (fun iv _=>ns.length - (intOf iv).toNat)
 case atStart=>exact⟨0,by omega,rfl,hide ⟨v,h,Off.refl _ _,fun g hg=>.inl hg⟩⟩
 case round=>
  obtain⟨k,hk,rfl,HK⟩:=hrel
  by_cases hlt:k<ns.length
  ·have k1:(k:Int)<ns.length:=by omega
   obtain⟨v1,hW,hO,hRo⟩:=HK.out
   clear HK
   have hrow:wr.heap[b]? =w.heap[b]? :=hO.2 b hb hne
   have ck:wr.cell? ⟨b,off+k,none⟩=some (.int .i64 (ns.getD k 0)):=by
    have:=zcg hr hrow k (.int .i64 (ns.getD k 0)) (by simp[List.getElem?_eq_getElem hlt])
    exact this
   have hnk:ns.getD k 0≤9223372036854775807:=hn _ (by simp[List.getElem?_eq_getElem hlt])
   have HS:=hide (zid ns s k hlt)
   have hbl:=zab (ns.getD k 0) (by omega)
   have hlen:=zdv (ns.take k) s hm
   have cp:=zbx none 0 [] (ns.getD k 0) wr (zaR wr) (by simp) hnk
   rw[List.nil_append]at cp
   obtain⟨n,hnn⟩:∃n,Hid (ns.getD k 0=n):=⟨_,hide rfl⟩
   rw[hnn.out]at ck cp HS hnk hbl
   obtain⟨bs,hbs⟩:∃bs,Hid (putL n=bs):=⟨_,hide rfl⟩
   rw[hbs.out]at cp HS hbl
   obtain⟨t,ht⟩:∃t,Hid (wrN s (ns.take k)=t):=⟨_,hide rfl⟩
   rw[ht.out]at hW hlen HS
   clear hnn hbs ht hr hrow
   go_wp2_with fail
   refine cp.mono ?_
   rintro e1 w1 ⟨v2,rfl,hM,hB⟩
   obtain⟨a2,cap2,rfl,_,_,hrw⟩:=hM.rowAt (by unfold maxLen;omega)
   have hMf:=hM.fresh
   have hW1:=hW.below hB
   have cr:=zdX X v1 t.1 t.2 a2 cap2 bs w1 hW1 hrw (.inr (fun x hx=>by have:=hMf x hx;have:=hW.lt;omega)) hlen
   have hO1:=hO.below_r hB
   clear hM hMf hW1 hW hB hO cp hrw ck
   go_wp2_with fail
   refine cr.mono ?_
   rintro e2 w2 ⟨v3,rfl,hW2,hO2,hR2⟩
   have T:=zF hO1 hRo hO2 hR2
   clear cr hO2 hR2 hO1 hRo
   have T':=hide (And.intro hW2 T)
   clear hW2 T
   go_wp2
   go_roundw
   case rel=>
    refine⟨k+1,by omega,by go_num,hide ⟨v3,?_,T'.out.2.1,T'.out.2.2⟩⟩
    rw[HS.out]
    exact T'.out.1
   case measure=>simp[intOf];omega
  ·obtain rfl:k=ns.length:=by omega
   go_wp2
   go_end0
   obtain⟨v1,hW,hO,hRo⟩:=HK.out
   rw[List.take_length]at hW
   exact⟨v1,rfl,hW,hO,hRo⟩
open Go.RowKit
open Sha Tal
structure Vt.ok (x:Vt):Prop where
 k:x.k≤9223372036854775807
 e:x.e≤9223372036854775807
 v:x.v≤9223372036854775807
 s:x.s≤9223372036854775807
 dl:x.d.length=32
 db:∀z∈x.d,0≤z∧z<256
theorem Vt.ok.len {x:Vt} (h:x.ok):x.cells.length=36:=by
 have:=h.dl
 simp[Vt.cells,v8]
 omega
theorem Vt.one (x:Vt):∀v∈x.cells,v.oneCell'=true:=by
 intro v hv
 simp only[Vt.cells,List.mem_cons]at hv
 rcases hv with rfl|rfl|rfl|rfl|hv
 ·rfl
 ·rfl
 ·rfl
 ·rfl
 ·exact zy x.d v hv
def Vt.zero:Vt:=⟨0,0,0,0,List.replicate 32 0⟩
theorem Vt.zero_ok:Vt.zero.ok:=⟨by decide,by decide,by decide,by decide,by decide,by decide⟩
structure Ms where
 k:Int
 e:Int
 l:Int
 v:Int
 s:Int
 q:Bool
 rs:Value
 vt:Vt
 ce:Int
 cl:Int
 cv:Int
 he:Value
 ne:Value
 d:List Int
 ct:Vt
 cs:Value
 st:ByteArray
 sg:Value
def Ms.cells (m:Ms):List Value:=[.int .i64 m.k,.int .i64 m.e,.int .i64 m.l,.int .i64 m.v,.int .i64 m.s,.bool m.q,m.rs]++(m.vt.cells++([.int .i64 m.ce,.int .i64 m.cl,.int .i64 m.cv,m.he,m.ne]++(v8 m.d++(m.ct.cells++[m.cs,.string m.st,m.sg]))))
structure Ms.ok (m:Ms):Prop where
 vt:m.vt.ok
 ct:m.ct.ok
 dl:m.d.length=32
 db:∀z∈m.d,0≤z∧z<256
 rs:m.rs.oneCell'=true
 he:m.he.oneCell'=true
 ne:m.ne.oneCell'=true
 cs:m.cs.oneCell'=true
 sg:m.sg.oneCell'=true
theorem Ms.ok.len {m:Ms} (h:m.ok):m.cells.length=119:=by
 have h1:=h.vt.len
 have h2:=h.ct.len
 have h3:=h.dl
 simp only[Ms.cells,List.length_append,List.length_cons,List.length_nil,v8_length]
 omega
theorem Ms.ok.one {m:Ms} (h:m.ok):∀v∈m.cells,v.oneCell'=true:=by
 intro v hv
 simp only[Ms.cells,List.mem_append,List.mem_cons,List.not_mem_nil,or_false]at hv
 rcases hv with(rfl|rfl|rfl|rfl|rfl|rfl|rfl)|hv|(rfl|rfl|rfl|rfl|rfl)|hv|hv|(rfl|rfl|rfl)
 all_goals first|rfl|exact h.rs|exact h.he|exact h.ne|exact h.cs|exact h.sg|exact Vt.one _ _ hv|exact zy _ _ hv
structure Ms.at (m:Ms) (w:World) (b:Nat):Prop where
 k:w.cell? ⟨b,0,none⟩=some (.int .i64 m.k)
 e:w.cell? ⟨b,1,none⟩=some (.int .i64 m.e)
 l:w.cell? ⟨b,2,none⟩=some (.int .i64 m.l)
 v:w.cell? ⟨b,3,none⟩=some (.int .i64 m.v)
 s:w.cell? ⟨b,4,none⟩=some (.int .i64 m.s)
 q:w.cell? ⟨b,5,none⟩=some (.bool m.q)
 rs:w.cell? ⟨b,6,none⟩=some m.rs
 vt:w.rangeAt b 7 m.vt.cells
 ce:w.cell? ⟨b,43,none⟩=some (.int .i64 m.ce)
 cl:w.cell? ⟨b,44,none⟩=some (.int .i64 m.cl)
 cv:w.cell? ⟨b,45,none⟩=some (.int .i64 m.cv)
 he:w.cell? ⟨b,46,none⟩=some m.he
 ne:w.cell? ⟨b,47,none⟩=some m.ne
 d:w.rangeAt b 48 (v8 m.d)
 ct:w.rangeAt b 80 (m.ct.cells++[m.cs])
 st:w.cell? ⟨b,117,none⟩=some (.string m.st)
 sg:w.cell? ⟨b,118,none⟩=some m.sg
theorem Ms.ok.at {m:Ms} (h:m.ok) {w:World} {b:Nat} (hr:w.rangeAt b 0 m.cells):m.at w b:=by
  have h1:=h.vt.len
  have h2:=h.ct.len
  have h3:=h.dl
  have a0:=zI hr
  have a1:=zO hr
  have b0:=zI a1
  have b1:=zO a1
  have c0:=zI b1
  have c1:=zO b1
  have d0:=zI c1
  have d1:=zO c1
  have e0:=zI d1
  have e1:=zO d1
  simp only[List.length_cons,List.length_nil,v8_length,h1,h2,h3,Nat.zero_add,Nat.reduceAdd]at b0 c0 d0 e0 e1
  refine⟨a0 0 _ rfl,a0 1 _ rfl,a0 2 _ rfl,a0 3 _ rfl,a0 4 _ rfl,a0 5 _ rfl,a0 6 _ rfl,b0,c0 0 _ rfl,c0 1 _ rfl,c0 2 _ rfl,c0 3 _ rfl,c0 4 _ rfl,d0,?_,e1 1 _ rfl,e1 2 _ rfl⟩
  refine za4 e0 ?_
  rw[h2]
  intro j v hv
  match j,hv with
  |0,hv=>cases hv;exact e1 0 _ rfl
theorem Ms.box {m:Ms} (h:m.ok) (w:World):m.at (w.alloc (.cells m.cells.toArray 52)) w.heap.size:=h.at (by
 have:=zC w m.cells.toArray 52
 simpa using this)
open Go.RowKit
open Sha Tal
theorem zeS (X:Nat) (v:Value) (s:List Int ×Bool) (x:Vt) (w:World) (hx:x.ok) (h:WrAt w X v s.1 s.2) (hm:s.1.length≤4194304):
  Calls prog 89 #[.pointer (some ⟨X,0,none⟩),.agg x.cells.toArray] w fun e w'=>∃v',e=.returned (.tuple #[])∧WrAt w' X v' (wrS (wrN s [x.k,x.e,x.v,x.s]) x.d).1 (wrS (wrN s [x.k,x.e,x.v,x.s]) x.d).2∧Off (WrF X v) w w'∧RowOn w v v':=by
 obtain⟨k,ep,vi,sl,d⟩:=x
 have hB1:Below w.heap.size w (w.alloc (.cells (Vt.mk k ep vi sl d).cells.toArray 43)):=(Below.refl _ _).alloc (Nat.le_refl _) _
 have hR1:=Vt.box w ⟨k,ep,vi,sl,d⟩
 obtain⟨c0,c1,c2,c3⟩:=Vt.four hR1
 simp only[Nat.zero_add]at c1 c2 c3
 have hd:(w.alloc (.cells (Vt.mk k ep vi sl d).cells.toArray 43)).rangeAt w.heap.size 4 (v8 d):=fun j u hj=>by
  have:=hR1 (4+j) u (by rw[Nat.add_comm];exact hj)
  rwa [Nat.zero_add]at this
 have hsz:(w.alloc (.cells (Vt.mk k ep vi sl d).cells.toArray 43)).heap.size≥w.heap.size+1:=by simp
 clear hR1
 generalize (Vt.mk k ep vi sl d).cells=q at *
 show Calls prog 89 _ w fun e w'=>∃v',e=.returned (.tuple #[])∧WrAt w' X v' (wrS (wrN s [k,ep,vi,sl]) d).1 (wrS (wrN s [k,ep,vi,sl]) d).2∧Off (WrF X v) w w'∧RowOn w v v'
 have hl2:=zdv [k,ep,vi,sl] s hm
 obtain⟨t,ht⟩:∃t,Hid (wrN s [k,ep,vi,sl]=t):=⟨_,hide rfl⟩
 rw[ht.out]at hl2 ⊢
 go_enter func89,ntmps89
 go_upto_region 1 with fail
 go_name_world w1 hw1
 rw[show w.alloc (.cells q.toArray 43)=w1 from hw1]at hB1 c0 c1 c2 c3 hd hsz
 clear hw1
 have hX:=h.lt
 have hown:=h.me.from
 have h1:=h.below hB1
 have hB2:Below w1.heap.size w1 (w1.alloc (.cells #[.int .i64 k,.int .i64 ep,.int .i64 vi,.int .i64 sl] 3)):=(Below.refl _ _).alloc (Nat.le_refl _) _
 have hR2:(w1.alloc (.cells #[.int .i64 k,.int .i64 ep,.int .i64 vi,.int .i64 sl] 3)).rangeAt w1.heap.size 0 ([k,ep,vi,sl].map (Value.int .i64)):=by
  have:=zC w1 #[.int .i64 k,.int .i64 ep,.int .i64 vi,.int .i64 sl] 3
  simpa using this
 have hsz2:(w1.alloc (.cells #[.int .i64 k,.int .i64 ep,.int .i64 vi,.int .i64 sl] 3)).heap.size≥w1.heap.size+1:=by simp
 have h2:=h1.below hB2
 have hd2:=za hd hB2 (by omega)
 have cn:=zgx X v s w1.heap.size 0 4 [k,ep,vi,sl] _ h2 (by simp) (by
  intro n hn
  simp only[List.mem_cons,List.not_mem_nil,or_false]at hn
  rcases hn with rfl|rfl|rfl|rfl
  ·exact hx.k
  ·exact hx.e
  ·exact hx.v
  ·exact hx.s) (by omega) hR2 (fun hf=>by
  rcases hf with hf|hf
  ·omega
  ·have:=(hown _ hf).2;omega) hm
 have hO0:Off (WrF X v) w (w1.alloc (.cells #[.int .i64 k,.int .i64 ep,.int .i64 vi,.int .i64 sl] 3)):=Off.of_below (hB1.trans (hB2.mono (by omega)))
 have hdl:d.length=32:=hx.dl
 have hdb:∀z∈d,0≤z∧z<256:=hx.db
 clear hR2 h1 h h2 hd hx
 simp only[List.length_cons,List.length_nil,Nat.zero_add,Nat.reduceAdd]at cn
 rw[ht.out]at cn
 clear ht
 go_wp2_with fail
 obtain⟨w2,hw2⟩:∃w2,w1.alloc (.cells #[.int .i64 k,.int .i64 ep,.int .i64 vi,.int .i64 sl] 3)=w2:=⟨_,rfl⟩
 rw[hw2]at hd2 cn hO0 hsz2 ⊢
 clear hw2 hB1 hB2
 refine cn.mono ?_
 rintro e3 w3 ⟨v3,rfl,hW3,hO3,hr3⟩
 have hd3:w3.rangeAt w.heap.size 4 (v8 d):=zcg hd2 (hO3.2 _ (by omega) (fun hf=>by
  rcases hf with hf|hf
  ·omega
  ·have:=(hown _ hf).2;omega))
 have hs3:=hO3.size
 have hrow:RowAt w3 (some ⟨w.heap.size,4,none⟩) d:=⟨by rw[hdl];decide,hdb,.inr ⟨_,_,rfl,by omega,hd3⟩⟩
 have cr:=zdX X v3 t.1 t.2 (some ⟨w.heap.size,4,none⟩) 32 d w3 hW3 hrow (.inr (fun x hx=>by cases hx;show w.heap.size≠X;omega)) hl2
 rw[show d.length=32 from hdl]at cr
 have E:((fullB t.2 ((32:Nat):Int) t.1))=(fullB t.2 d.length t.1):=by rw[show d.length=32 from hdl]
 rw[E]at cr
 clear E
 have T0:=zF hO0 (fun g hg=>.inl hg) hO3 hr3
 clear cn hd2 hd3 hrow hO3 hr3 hO0 c0 c1 c2 c3
 go_wp2_with fail
 refine cr.mono ?_
 rintro e4 w4 ⟨v4,rfl,hW4,hO4,hr4⟩
 have T:=zF T0.1 T0.2 hO4 hr4
 clear cr
 go_wp2_with fail
 go_end0
 exact⟨v4,rfl,hW4,T.1,T.2⟩
open Go.RowKit
open Sha Tal
theorem iszV:(prog.info? 43).map (·.size)=some 36:=by kernel_rfl
theorem iszM:(prog.info? 52).map (·.size)=some 119:=by kernel_rfl
theorem zgw (X:Nat) (v:Value) (s:List Int ×Bool) (ns:List Int) (arr:Array Value) (n:Nat) (w:World) (h:WrAt w X v s.1 s.2) (ha:arr=(ns.map (Value.int .i64)).toArray) (hc:ns.length=n) (hl:n≤10) (hn:∀n∈ns,n≤9223372036854775807) (hm:s.1.length≤4194304):
  Calls prog 87 #[.pointer (some ⟨X,0,none⟩),.slice (some ⟨w.heap.size,0,none⟩) n n] (w.alloc (.cells arr 3)) fun e w'=>∃v',e=.returned (.tuple #[])∧WrAt w' X v' (wrN s ns).1 (wrN s ns).2∧Off (WrF X v) w w'∧RowOn w v v':=by
 subst ha hc
 have hB:Below w.heap.size w (w.alloc (.cells (ns.map (Value.int .i64)).toArray 3)):=(Below.refl _ _).alloc (Nat.le_refl _) _
 have hR:(w.alloc (.cells (ns.map (Value.int .i64)).toArray 3)).rangeAt w.heap.size 0 (ns.map (Value.int .i64)):=by
  have:=zC w (ns.map (Value.int .i64)).toArray 3
  simpa using this
 have hX:=h.lt
 have hown:=h.me.from
 refine(zgx X v s w.heap.size 0 ns.length ns _ (h.below hB) (by omega) hn (by simp) hR (fun hf=>by
  rcases hf with hf|hf
  ·omega
  ·have:=(hown _ hf).2;omega) hm).mono ?_
 rintro e w' ⟨v',rfl,h1,h2,h3⟩
 have T:=zF (Off.of_below hB) (fun g hg=>.inl hg) h2 h3
 exact⟨v',rfl,h1,T.1,T.2⟩
theorem zaz {n:Int} (h:n≤9223372036854775807):∀z∈[n],z≤9223372036854775807:=by
 intro z hz;rw[List.mem_singleton.1 hz];exact h
theorem zff {n m:Int} (h:n≤9223372036854775807) (h':m≤9223372036854775807):∀z∈[n,m],z≤9223372036854775807:=by
 intro z hz
 simp only[List.mem_cons,List.not_mem_nil,or_false]at hz
 rcases hz with rfl|rfl
 ·exact h
 ·exact h'
theorem zeW {X:Nat} {v:Value} {w w1 w2:World} {zs:List Int} {lg:Bool} (h:WrAt w X v zs lg) (hs:w.heap.size<w1.heap.size) (hO:Off (WrF X v) w1 w2):w2.heap[w.heap.size]? =w1.heap[w.heap.size]? :=
 hO.2 _ hs (fun hf=>by
  rcases hf with hf|hf
  ·have:=h.lt;omega
  ·have:=(h.me.from _ hf).2;omega)
theorem zim (X:Nat) (v:Value) (s:List Int ×Bool) (m:Ms) (w:World) (hm:m.ok) (hk:m.k=2) (h:WrAt w X v s.1 s.2) (hs:s.1.length≤4194304):
  Calls prog 58 #[.pointer (some ⟨X,0,none⟩),.agg m.cells.toArray] w fun e w'=>∃v',e=.returned (.tuple #[])∧WrAt w' X v' (wrS (wrN (wrN s [2]) [m.vt.k,m.vt.e,m.vt.v,m.vt.s]) m.vt.d).1 (wrS (wrN (wrN s [2]) [m.vt.k,m.vt.e,m.vt.v,m.vt.s]) m.vt.d).2∧Off (WrF X v) w w'∧RowOn w v v':=by
 have hB1:Below w.heap.size w (w.alloc (.cells m.cells.toArray 52)):=(Below.refl _ _).alloc (Nat.le_refl _) _
 have hsz:w.heap.size<(w.alloc (.cells m.cells.toArray 52)).heap.size:=by simp
 have hM:=m.box hm w
 have ck:=hM.k
 have rv:=hM.vt
 rw[hk]at ck
 have hl1:=zdv [2] s hs
 have hvo:=hm.vt
 have iv:(prog.info? 43).map (·.size)=some m.vt.cells.length:=by rw[hvo.len];exact iszV
 clear hk hm hM
 generalize m.cells=q at *
 generalize m.vt=x at *
 obtain⟨t,ht⟩:∃t,Hid (wrN s [2]=t):=⟨_,hide rfl⟩
 rw[ht.out]at hl1 ⊢
 go_enter func58,ntmps58
 go_upto_region 1 with fail
 go_name_world w1 hw1
 rw[show w.alloc (.cells q.toArray 52)=w1 from hw1]at hB1 ck rv hsz
 clear hw1
 have cn:=zgw X v s [2] #[.int .i64 2] 1 w1 (h.below hB1) rfl rfl (by omega) (zaz (by omega)) hs
 rw[ht.out]at cn
 clear ht
 go_wp2_with fail
 refine cn.mono ?_
 rintro e2 w2 ⟨v2,rfl,hW2,hO2,hr2⟩
 clear cn
 have hb2:=zeW h hsz hO2
 have ck2:w2.cell? ⟨w.heap.size,0,none⟩=some (.int .i64 2):=by rw[←ck];simp[World.cell?,hb2]
 have rv2:=zcg rv hb2
 have T1:=zF (Off.of_below (F:=WrF X v) hB1) (fun g hg=>.inl hg) hO2 hr2
 have cv:=zeS X v2 t x w2 hvo hW2 hl1
 obtain⟨xc,hxc⟩:∃xc,Hid (x.cells=xc):=⟨_,hide rfl⟩
 rw[hxc.out]at rv2 cv iv
 clear hxc hb2 hO2 hr2 hB1 ck rv hsz hW2
 go_wp2_with (refine wpList_load_mid rfl 43 _ rfl _ _ rfl xc _ rv2 underlying43 rfl iv ?_)
 refine cv.mono ?_
 rintro e3 w3 ⟨v3,rfl,hW3,hO3,hr3⟩
 have T:=zF T1.1 T1.2 hO3 hr3
 clear cv
 go_wp2_with fail
 go_end0
 exact⟨v3,rfl,hW3,T.1,T.2⟩
open Go.RowKit
open Sha Tal
theorem zaZ {P:Program} {ops:Array Oper} {rest:List Oper} {o:Oper} {a:Act} {w:World} {Q:Exit→Act→World→Prop} (hgd:o.guard=none) (t:TypeId) (parts:List (Nat ×Operand)) (ho:o.op=.build t parts.toArray) (vs:List (Nat ×Value)) (v:Value) (hv:(parts.map fun(x:Nat ×Operand)=>(x.1,a.eval x.2))=vs)
  (hr:(Instr.build t vs.toArray).run P w=.ok v w) (h:wpList P ops Q rest (a.put o.dst v) w):wpList P ops Q (o::rest) a w:=by
 refine wpList_plain hgd fun K hK=>?_
 unfold Oper.wp execOp
 subst hv
 have e:Array.map (fun(x:Nat ×Operand)=>(x.1,a.eval x.2)) parts.toArray=(parts.map fun(x:Nat ×Operand)=>(x.1,a.eval x.2)).toArray:=by simp
 simp only[ho]
 rw[show(Instr.build t (Array.map (fun x=>match x with|(i,x)=>(i,a.eval x)) parts.toArray))=Instr.build t (parts.map fun(x:Nat ×Operand)=>(x.1,a.eval x.2)).toArray from congrArg _ e]
 simp only[Sem.run_bind,hr,Result.andThen_ok,Sem.run_pure]
 exact hK _ _ h
def Ms.plain (k e s:Int) (x:Vt) (d:List Int):Ms:=⟨k,e,0,0,s,false,.slice none 0 0,x,0,0,0,.slice none 0 0,.slice none 0 0,d,Vt.zero,.slice none 0 0,⟨#[]⟩,.slice none 0 0⟩
def zd:List Int:=List.replicate 32 0
theorem zt:zd.length=32:=by decide
theorem zx:∀z∈zd,0≤z∧z<256:=by decide
def Ms.zero:Ms:=Ms.plain 0 0 0 Vt.zero zd
theorem Ms.plain_ok (k e s:Int) {x:Vt} {d:List Int} (hx:x.ok) (hd:d.length=32) (hb:∀z∈d,0≤z∧z<256):(Ms.plain k e s x d).ok:=
 ⟨hx,Vt.zero_ok,hd,hb,rfl,rfl,rfl,rfl,rfl⟩
theorem zeroM (w:World):(zeroValue 52).run prog w=.ok (.agg Ms.zero.cells.toArray) w:=by kernel_rfl
theorem zg4 (off:Nat):∀(u:List Value) (k:Nat) (arr:Array Value),off+k+u.length≤arr.size→List.foldl (fun(cs:Array Value) (x:Value ×Nat)=>cs.setIfInBounds (off+x.snd) x.fst) arr (u.zipIdx k)=(arr.toList.take (off+k)++(u++arr.toList.drop (off+k+u.length))).toArray
  |[],k,arr,h=>by simp
  |a::u,k,arr,h=>by
    simp only[List.length_cons]at h
    rw[List.zipIdx_cons,List.foldl_cons,zg4 off u (k+1) _ (by simp;omega)]
    congr 1
    have hlt:off+k<arr.toList.length:=by simp;omega
    rw[Array.toList_setIfInBounds]
    simp only[List.length_cons]
    rw[List.drop_set_of_lt (by omega),show off+(k+1)+u.length=off+k+(u.length+1) by omega,show off+(k+1)=off+k+1 by omega,List.take_succ_eq_append_getElem (by simpa using hlt),List.getElem_set_self,List.take_set_of_le (Nat.le_refl _)]
    simp
theorem zbq {place:Nat→Option (Nat ×Nat)} {i off n:Nat} {v:Value} {rest:List (Nat ×Value)} {vs pre mid post:List Value} (hp:place i=some (off,n)) (hn:mid.length=n) (hpre:pre.length=off) (hv:v.cells=vs.toArray) (hl:vs.length=n):
  Instr.fill place (pre++(mid++post)).toArray ((i,v)::rest)=Instr.fill place (pre++(vs++post)).toArray rest:=by
 subst hn hpre
 rw[Instr.fill,hp]
 simp only[hv,List.size_toArray,hl,ne_eq,not_true_eq_false,decide_false,Bool.false_or,List.length_append]
 rw[if_neg (by simp)]
 congr 1
 have:=zg4 pre.length vs 0 (pre++(mid++post)).toArray (by simp;omega)
 simp only[Nat.add_zero]at this
 rw[show(vs.toArray.zipIdx.foldl (fun cs (x:Value ×Nat)=>cs.setIfInBounds (pre.length+x.2) x.1) (pre++(mid++post)).toArray)=List.foldl (fun(cs:Array Value) (x:Value ×Nat)=>cs.setIfInBounds (pre.length+x.snd) x.fst) (pre++(mid++post)).toArray (vs.zipIdx 0) by simp,this]
 congr 1
 rw[List.take_left,hl,←List.append_assoc pre mid post,←List.length_append,List.drop_left]
def placesM:Array (Nat ×Nat):=#[(0,1),(1,1),(2,1),(3,1),(4,1),(5,2),(7,36),(43,4),(47,1),(48,32),(80,37),(117,1),(118,1)]
theorem zdq (parts:Array (Nat ×Value)) (cs:List Value) (w:World) (h:Instr.fill (placesM[·]?) Ms.zero.cells.toArray parts.toList=some cs.toArray):(Instr.build 52 parts).run prog w=.ok (.agg cs.toArray) w:=by
 have hp:(((prog.fieldsOf 52).mapM fun f=>do pure (f.offset,←sizeOf f.type):Sem (Array (Nat ×Nat)))).run prog w=.ok placesM w:=by kernel_rfl
 have hu:prog.underlying 52=some (.struct (prog.fieldsOf 52)):=by kernel_rfl
 unfold Instr.build
 simp only[Sem.run_bind,zeroM,Result.andThen_ok,run_underlying hu]
 rw[hp]
 simp only[Result.andThen_ok,Value.cells]
 rw[h]
 rfl
theorem zmX (x:Vt) (hx:x.ok) (w:World):(Instr.build 52 #[(0,.int .i64 2),(6,.agg x.cells.toArray)]).run prog w=.ok (.agg (Ms.plain 2 0 0 x zd).cells.toArray) w:=by
 refine zdq _ _ w ?_
 show Instr.fill (placesM[·]?) (([]:List Value)++([Value.int .i64 0]++_)).toArray _=_
 rw[zbq (off:=0) (n:=1) (vs:=[.int .i64 2]) rfl rfl rfl rfl rfl]
 show Instr.fill (placesM[·]?) ([Value.int .i64 2,.int .i64 0,.int .i64 0,.int .i64 0,.int .i64 0,.bool false,.slice none 0 0]++(Vt.zero.cells++_)).toArray _=_
 rw[zbq (off:=7) (n:=36) (vs:=x.cells) rfl Vt.zero_ok.len rfl rfl hx.len]
 rfl
theorem zao (k:Int) (w:World):(Instr.build 52 #[(0,.int .i64 k)]).run prog w=.ok (.agg (Ms.plain k 0 0 Vt.zero zd).cells.toArray) w:=by
 refine zdq _ _ w ?_
 show Instr.fill (placesM[·]?) (([]:List Value)++([Value.int .i64 0]++_)).toArray _=_
 rw[zbq (off:=0) (n:=1) (vs:=[.int .i64 k]) rfl rfl rfl rfl rfl]
 rfl
open Go Go.RowKit
section
variable {P : Program} {ops : Array Oper} {Q : Exit → Act → World → Prop}
def StepS (P:Program) (ops:Array Oper) (Q:Exit→Act→World→Prop) (S:World→Prop) (fuel:Nat) (listed:Array Bool) (i:Nat) (a:Act) (w:World):Prop:=
 wpOp P ops (NoPanic Q) i (fun a' w'=>S w'∧wpAnyH P .any ops (NoPanic Q) S fuel (listed.setIfInBounds i true) a' w') a w
theorem zfo {i:Nat} {S:World→Prop} {oi:Oper} {d:Option Nat} {v:Value} {fuel:Nat} {listed:Array Bool} {a:Act} {w w':World} (hi:ops[i]? =some oi)
  (hw:Region.wanted oi (yielded ops a.tmps)=true) (hy:(execOp a.eval oi).run P w=.ok (.value v) w') (hdst:oi.dst=d)
  (hS:S w') (h:HeldS P ops Q S fuel (listed.setIfInBounds i true) (a.put d v) w'):StepS P ops Q S fuel listed i a w:=by
 subst hdst
 unfold StepS wpOp
 simp only[hi,hw,if_true]
 left
 unfold Oper.wp
 rw[hy]
 exact⟨hS,h⟩
end
end Go.Proofs.YtcbpbkefggekmaaGreatDoor
namespace Go.Proofs.YtcbpbkefggekmaaGreatDoor
open Go.RowKit
open Sha Tal
theorem zaH {w:World} {b:Nat} {pre mid post vs:List Value} (h:w.rangeAt b 0 (pre++(mid++post))) (o:Nat) (ho:pre.length=o) (ht:w.there b o vs.length) (hl:vs.length=mid.length):(w.setCells b o vs).rangeAt b 0 (pre++(vs++post)):=by
 subst ho
 have h1:=zI h
 have h2:=zO (zO h)
 rw[Nat.zero_add]at h2
 refine za4 (World.rangeAt_setCells_apart h1 _ _ _ (.inr (.inl (by omega)))) (za4 ?_ ?_)
 ·rw[Nat.zero_add];exact World.rangeAt_setCells_same _ _ _ _ ht
 ·rw[Nat.zero_add,hl];exact World.rangeAt_setCells_apart h2 _ _ _ (.inr (.inr (by omega)))
def BareOk (w:World) (q:List Value):Ending→World→Prop:=fun e w'=>e=.returned (.agg q.toArray)∧Below w.heap.size w w'
theorem zbd (q z:List Value) (w:World) (hz:z.length=119):((w.alloc (.cells q.toArray 52)).alloc (.cells z.toArray 52)).rangeAt w.heap.size 0 q∧((w.alloc (.cells q.toArray 52)).alloc (.cells z.toArray 52)).there (w.heap.size+1) 0 119∧Below w.heap.size w ((w.alloc (.cells q.toArray 52)).alloc (.cells z.toArray 52))∧w.heap.size+2≤((w.alloc (.cells q.toArray 52)).alloc (.cells z.toArray 52)).heap.size:=by
 have hB:Below w.heap.size w (w.alloc (.cells q.toArray 52)):=(Below.refl _ _).alloc (Nat.le_refl _) _
 have hB2:Below (w.alloc (.cells q.toArray 52)).heap.size (w.alloc (.cells q.toArray 52)) ((w.alloc (.cells q.toArray 52)).alloc (.cells z.toArray 52)):=(Below.refl _ _).alloc (Nat.le_refl _) _
 have h1:=zC w q.toArray 52
 have h2:=zE (w.alloc (.cells q.toArray 52)) z.toArray 52
 rw[show z.toArray.size=119 by simpa using hz,World.size_alloc]at h2
 refine⟨za (by simpa using h1) hB2 (by simp),h2,hB.trans (hB2.mono (by simp)),by simp⟩
theorem bare2 (x:Vt) (hx:x.ok) (w:World):Calls prog 85 #[.agg (Ms.plain 2 0 0 x zd).cells.toArray] w (BareOk w (Ms.plain 2 0 0 x zd).cells):=by
 have hm:(Ms.plain 2 0 0 x zd).ok:=Ms.plain_ok 2 0 0 hx zt zx
 have hk:(Ms.plain 2 0 0 Vt.zero zd).ok:=Ms.plain_ok 2 0 0 Vt.zero_ok zt zx
 have hz0:Ms.zero.ok:=Ms.plain_ok 0 0 0 Vt.zero_ok zt zx
 have lm:=hm.len
 have lk:=hk.len
 have lz:=hz0.len
 have lx:=hx.len
 have om:=all_oneCell_toArray hm.one
 have ok:=all_oneCell_toArray hk.one
 have ox:=all_oneCell_toArray x.one
 have hz:=zeroM
 have hbk:=zao 2
 have hat:∀(w':World) b,w'.rangeAt b 0 (Ms.plain 2 0 0 x zd).cells→w'.cell? ⟨b,0,none⟩=some (.int .i64 2)∧w'.rangeAt b 7 x.cells:=fun w' b h=>⟨(hm.at h).k,(hm.at h).vt⟩
 have hput:∀(w':World) b,w'.rangeAt b 0 (Ms.plain 2 0 0 Vt.zero zd).cells→w'.there b 7 36→(w'.setCells b 7 x.cells).rangeAt b 0 (Ms.plain 2 0 0 x zd).cells:=fun w' b h ht=>zaH (mid:=Vt.zero.cells) h 7 rfl (by rw[lx];exact ht) (by rw[lx,Vt.zero_ok.len])
 have im:(prog.info? 52).map (·.size)=some (Ms.plain 2 0 0 x zd).cells.length:=by rw[lm];exact iszM
 have im':(prog.info? 52).map (·.size)=some (Ms.plain 2 0 0 x zd).cells.toArray.size:=by rw[List.size_toArray,lm];exact iszM
 have ik':(prog.info? 52).map (·.size)=some (Ms.plain 2 0 0 Vt.zero zd).cells.toArray.size:=by rw[List.size_toArray,lk];exact iszM
 have ix:(prog.info? 43).map (·.size)=some x.cells.length:=by rw[lx];exact iszV
 have ix':(prog.info? 43).map (·.size)=some x.cells.toArray.size:=by rw[List.size_toArray,lx];exact iszV
 clear hm hk hz0 hx
 generalize (Ms.plain 2 0 0 x zd).cells=q at *
 generalize (Ms.plain 2 0 0 Vt.zero zd).cells=qk at *
 generalize Ms.zero.cells=z at *
 generalize x.cells=u at *
 obtain⟨hA,hT,hB,hs⟩:=zbd q z w lz
 go_enter func85,ntmps85
 go_upto_region 1 with fail
 go_name_world w1 hw1
 rw[show(w.alloc (.cells q.toArray 52)).alloc (.cells z.toArray 52)=w1 from hw1]at hA hT hB hs
 clear hw1
 have c0:=(hat _ _ hA).1
 obtain⟨r2,hB2,hs2,hT2⟩:=zq w1 z.toArray 52 qk (by rw[List.size_toArray,lz,lk])
 rw[show z.toArray.size=119 by simpa using lz]at hT2
 have hTz:(w1.alloc (.cells z.toArray 52)).there w1.heap.size 0 qk.toArray.size:=by
  have:=zE w1 z.toArray 52
  rw[show z.toArray.size=119 by simpa using lz]at this
  rw[show qk.toArray.size=119 by simpa using lk]
  exact this
 go_upto_region 2 with(first|(refine zaZ rfl 52 [(0,.tmp 5)] rfl [(0,.int .i64 2)] _ rfl (hbk _) ?_)|refine wpList_store_mid rfl 52 _ _ rfl _ _ qk.toArray rfl rfl hTz ik' ok ?_)
 go_name_world w2 hw2
 rw[show(w1.alloc (.cells z.toArray 52)).setCells w1.heap.size 0 qk=w2 from hw2]at r2 hB2 hs2 hT2
 have hs2':w1.heap.size<w2.heap.size:=by omega
 clear hw2 hs2 hTz
 have hA2:=za hA hB2 (by omega)
 have hT1:=zg hT hB2 (by omega)
 have hBw:=hB.trans (hB2.mono (by omega))
 obtain⟨c2,v2⟩:=hat _ _ hA2
 have hTv:w2.there w1.heap.size 7 u.toArray.size:=by
  rw[show u.toArray.size=36 by simpa using lx]
  have:=zL hT2 7 36 (by omega)
  rwa [Nat.zero_add]at this
 have r3:=hput _ _ r2 (by have:=zL hT2 7 36 (by omega);rwa [Nat.zero_add]at this)
 have hT3:(w2.setCells w1.heap.size 7 u).there (w.heap.size+1) 0 q.toArray.size:=by
  rw[show q.toArray.size=119 by simpa using lm]
  exact World.there_setCells hT1 _ _ _
 have hB3:=zi (show w.heap.size≤w1.heap.size by omega) u 7 _ hBw
 clear hA hT hB hB2 hA2 hT1 hBw c0 r2 hT2
 go_upto_region 20 with(first|(refine wpList_load_mid rfl 43 _ rfl _ _ rfl u _ v2 underlying43 rfl ix ?_)|(refine wpList_store_mid rfl 43 _ _ rfl _ _ u.toArray rfl rfl hTv ix' ox ?_))
 go_name_world w3 hw3
 rw[show w2.setCells w1.heap.size 7 u=w3 from hw3]at r3 hT3 hB3
 clear hw3 hTv v2 c2
 have r4:=World.rangeAt_setCells_same w3 (w.heap.size+1) 0 q (by have:=hT3;rwa [List.size_toArray]at this)
 have hB4:=zi (show w.heap.size≤w.heap.size+1 by omega) q 0 _ hB3
 have hrs:=run_loadVar_mid (P:=prog) _ (w.heap.size+1) 0 52 q _ r4 underlying52 rfl im
 go_wp2_with (first|(refine wpList_load_mid rfl 52 _ rfl _ _ rfl q _ r3 underlying52 rfl im ?_)|(refine wpList_store_mid rfl 52 _ _ rfl _ _ q.toArray rfl rfl hT3 im' om ?_))
 exact bodyPost_ret (v:=.agg q.toArray) (by simp[results,results85,asAddr,hrs,Act.put]) rfl ⟨rfl,hB4⟩
end Go.Proofs.YtcbpbkefggekmaaGreatDoor
