/- What was read, put again; Left.; The document's reader: number.; The document's reader: Num.; The document's reader: Text.; The readers: Text, Left, Done of the -/
import Derived.Test.YtcbpbkefggekmaaGreatDoorJE0
import Derived.Test.YtcbpbkefggekmaaGreatDoorJE3
import Derived.BigQuiet
import Derived.Lib.ConvBytes
import Derived.Laws.ResultCell
set_option maxHeartbeats 2000000
set_option maxRecDepth 100000
open Go.Proofs.Tryz
namespace Go.Proofs.YtcbpbkefggekmaaGreatDoor
open Go.RowKit
namespace Tal
theorem zki (ds:List Int) (hz:∀z∈ds,0≤z∧z<256) (hh:ds.head? ≠some 0) (hv:val ds≤9223372036854775807):digs (val ds).toNat=ds:=by
  have key:∀k,k≤ds.length→val (ds.take k)≤9223372036854775807→digs (val (ds.take k)).toNat=ds.take k:=by
    intro k
    induction k with
    |zero=>intro _ _;simp[val,zdC]
    |succ k ih=>
      intro hk hle
      have hlt:k<ds.length:=by omega
      have e:=zb7 ds k hlt
      have hb:=zaZ (ds.take k) (fun z h=>hz z (List.mem_of_mem_take h))
      have hd:0≤ds.getD k 0∧ds.getD k 0<256:=by
        rw[List.getD_eq_getElem?_getD,List.getElem?_eq_getElem hlt];exact hz _ (List.getElem_mem hlt)
      have hi:=ih (by omega) (by omega)
      have hpos:0<val (ds.take (k+1)):=by
        by_cases h0:k=0
        · subst h0
          have:val (ds.take 0)=0:=by simp[val]
          rw[e,this]
          cases ds with
          |nil=>simp at hlt
          |cons x tl=>simp at hh hd ⊢;omega
        · have : 0 < val (ds.take k) := by
            rcases Int.lt_or_eq_of_le hb.1 with h|h
            · exact h
            · rw[←h]at hi
              have hl:=congrArg List.length hi
              rw[List.length_take_of_le (by omega)]at hl
              have:(digs (0:Int).toNat).length=0:=by decide
              omega
          omega
      have ht:ds.take (k+1)=ds.take k++[ds.getD k 0]:=by
        rw[List.take_succ_eq_append_getElem hlt,List.getD_eq_getElem?_getD,List.getElem?_eq_getElem hlt];rfl
      have e1:(val (ds.take (k+1))).toNat / 256=(val (ds.take k)).toNat:=by omega
      have e2:((((val (ds.take (k+1))).toNat%256:Nat)):Int)=ds.getD k 0:=by omega
      rw[zfT _ (by omega) (by omega),e1,e2,hi,ht]
  have:=key ds.length (Nat.le_refl _)
  rw[List.take_length]at this
  exact this hv
theorem zct (zs:List Int) (hz:∀z∈zs,0≤z∧z<256) (h:(numR zs).2.2=0):
    putL (numR zs).1=zs.take (numR zs).2.1∧(numR zs).2.1≤zs.length∧0≤(numR zs).1∧(numR zs).1≤9223372036854775807:=by
  cases zs with
  |nil=>simp[numR]at h
  |cons k tl=>
    have hk:=hz k (by simp)
    by_cases h8:8<k
    · simp[numR,h8]at h
    · by_cases hl:(tl.length:Int)<k
      · simp[numR,h8,hl]at h
      · by_cases hv:(valR (tl.take k.toNat)).2=0
        · have e:numR (k::tl)=((valR (tl.take k.toNat)).1,1+k.toNat,0):=by simp only[numR,if_neg h8,if_neg hl,if_pos hv]
          rw[e]
          have hds:∀z∈tl.take k.toNat,0≤z∧z<256:=fun z h=>hz z (by simp[List.mem_of_mem_take h])
          have hb:=zaZ _ hds
          have hnot:¬((tl.take k.toNat).head? =some 0∨9223372036854775807<val (tl.take k.toNat)):=by
            intro hc;unfold valR at hv;rw[if_pos hc]at hv;cases hv
          have e1:(valR (tl.take k.toNat)).1=val (tl.take k.toNat):=by unfold valR;rw[if_neg hnot]
          have hlen:(tl.take k.toNat).length=k.toNat:=List.length_take_of_le (by omega)
          have hd:=zki (tl.take k.toNat) hds (fun h=>hnot (Or.inl h)) (by omega)
          have hw:(wid (val (tl.take k.toNat)).toNat:Int)=k:=by
            rw[←zaC,hd,hlen];omega
          simp only[e1]
          refine⟨?_,by simp;omega,hb.1,by omega⟩
          unfold putL
          rw[if_neg (by omega),numB,hd,hw,Nat.add_comm]
          rfl
        · simp only[numR,if_neg h8,if_neg hl,if_neg hv]at h
          exact absurd h hv
end Tal
open Sha Tal
open Go.RowKit
variable {B : Nat}
def Rf (B:Nat) (w:World) (X:Nat) (zs:List Int) (p:Nat) (e:Int):Prop:=
 X<w.heap.size∧(∃a cap,w.cell? ⟨X,0,none⟩=some (.slice a zs.length cap)∧zs.length≤cap∧cap≤maxLen∧RowAt w a zs∧∀x,a=some x→B≤x.block∧x.block<X)∧
 w.cell? ⟨X,1,none⟩=some (.int .i64 (p:Int))∧w.cell? ⟨X,2,none⟩=some (.int .i64 e)∧w.frozen? ⟨X,0,none⟩=false∧w.frozen? ⟨X,1,none⟩=false∧w.frozen? ⟨X,2,none⟩=false∧p≤zs.length∧zs.length≤40000
theorem zbK {a:Option Addr} {X:Nat} (h:∀x,a=some x→B≤x.block∧x.block<X):∀x,a=some x→x.block≠X:=fun x hx=>Nat.ne_of_lt (h x hx).2
namespace Tal
theorem zg7 (ds:List Int) (hz:∀z∈ds,0≤z∧z<256) (j:Nat) (hj:j≤ds.length):val (ds.take j)≤val ds:=by
  have:∀m,j+m≤ds.length→val (ds.take j)≤val (ds.take (j+m)):=by
    intro m
    induction m with
    |zero=>intro _;exact Int.le_refl _
    |succ m ih=>
      intro hm
      have h1:=ih (by omega)
      have hlt:j+m<ds.length:=by omega
      have e:=zb7 ds (j+m) hlt
      have hb:=zaZ (ds.take (j+m)) (fun z h=>hz z (List.mem_of_mem_take h))
      have hd:0≤ds.getD (j+m) 0:=by
        rw[List.getD_eq_getElem?_getD,List.getElem?_eq_getElem hlt];exact(hz _ (List.getElem_mem hlt)).1
      rw[←Nat.add_assoc,e]
      omega
  have h:=this (ds.length - j) (by omega)
  have e:j+(ds.length - j)=ds.length:=by omega
  rw[e,List.take_length]at h
  exact h
theorem val8 (ds:List Int) (hz:∀z∈ds,0≤z∧z<256) (hl:ds.length≤8):(9223372036854775807<val ds)↔(ds.length=8∧127<ds.getD 0 0):=by
  cases ds with
  |nil=>simp[val]
  |cons x tl=>
    have hx:=hz x (by simp)
    have e:val (x::tl)=x*256^tl.length+val tl:=by
      have:∀(l:List Int) (a:Int),l.foldl (fun a d=>a*256+d) a=a*256^l.length+val l:=by
        intro l
        induction l with
        |nil=>intro a;simp[val]
        |cons y l ih=>
          intro a
          simp only[List.foldl_cons,List.length_cons,val]
          rw[ih,ih (0*256+y),Int.pow_succ]
          simp only[Int.zero_mul,Int.zero_add,Int.add_mul]
          rw[Int.mul_assoc,Int.mul_comm 256]
          omega
      have h:=this tl (0*256+x)
      simp only[val,List.foldl_cons]
      rw[h];simp[val]
    have hb:=zaZ tl (fun z h=>hz z (by simp[h]))
    simp only[List.length_cons]at hl ⊢
    simp only[List.getD_cons_zero]
    rw[e]
    by_cases h7:tl.length=7
    · rw[h7]at hb ⊢
      omega
    · have h6:tl.length≤6:=by omega
      have hp:256^tl.length≤281474976710656:=Nat.le_trans (Nat.pow_le_pow_right (by omega) h6) (by decide)
      have ep:((256^tl.length:Nat):Int)=(256:Int)^tl.length:=Int.natCast_pow 256 _
      rw[←ep]at hb ⊢
      generalize 256^tl.length=q at *
      have hm:x*(q:Int)≤255*q:=Int.mul_le_mul_of_nonneg_right (by omega) (by omega)
      constructor
      · intro h;omega
      · intro h;omega
end Tal
theorem Rf.rest {w:World} {X:Nat} {zs:List Int} {p:Nat} {e:Int} (h:Rf B w X zs p e):∃a cap,w.cell? ⟨X,0,none⟩=some (.slice a zs.length cap)∧zs.length≤cap∧cap≤maxLen∧RowAt w (cutA a cap p) (zs.drop p):=by
 obtain⟨hX,⟨a,cap,h0,hc,hm,hr,hne⟩,h1,h2,f0,f1,f2,hp,hl⟩:=h
 exact⟨a,cap,h0,hc,hm,hr.drop p cap hp hc⟩
theorem zdg (X:Nat) (zs:List Int) (p:Nat) (e:Int) (w:World) (h:Rf B w X zs p e):
    Calls prog 75 #[.pointer (some ⟨X,0,none⟩)] w fun en w'=>en=.returned (.tuple #[.int .i64 (numR (zs.drop p)).1,.int .i64 ((numR (zs.drop p)).2.1:Int),.int .i64 (numR (zs.drop p)).2.2])∧∃k,w'=w.drewN k:=by
  obtain⟨a,cap,h0,hc,hm,hr⟩:=h.rest
  obtain⟨hX,_,h1,h2,f0,f1,f2,hp,hl⟩:=h
  unfold maxLen at hm
  have hlen:(zs.drop p).length=zs.length - p:=List.length_drop ..
  by_cases hcp:cap=p
  · have hnil:zs.drop p=[]:=List.drop_eq_nil_of_le (by omega)
    have hzp:zs.length=p:=by omega
    have HN:Hid (numR (zs.drop p)=(0,0,10)):=by show _=_;rw[hnil];rfl
    subst hcp
    clear hnil hlen
    go_enter func75,ntmps75
    go_wp2_with fail
    go_quiet (fail)
    go_wp2_with fail
    go_ret3
    rw[HN.out]
    exact⟨rfl,_,rfl⟩
  · have hA:cutA a cap p=a.map (fun x=>x.add p):=by unfold cutA;rw[if_neg hcp]
    rw[hA]at hr
    clear hA
    generalize hAm:Option.map (fun x:Addr=>x.add p) a=A at *
    generalize zs.drop p=rest at *
    have hlr:zs.length - p=rest.length:=hlen.symm
    have hcap:rest.length≤cap - p:=by omega
    clear hlen
    cases rest with
    |nil=>
      have hlr0:zs.length - p=0:=hlr
      clear hlr
      go_enter func75,ntmps75
      go_wp2_with fail
      go_quiet (fail)
      go_wp2_with fail
      go_ret3
      exact⟨rfl,_,rfl⟩
    |cons k tl=>
      obtain⟨b,off,rfl,hb,hcb,hk0,hk1⟩:=hr.get 0 (by simp)
      have hk:(k::tl).getD 0 0=k:=rfl
      rw[hk]at hcb hk0 hk1
      clear hk
      have hlr1:zs.length - p=tl.length+1:=by simpa using hlr
      clear hlr
      have hcb':w.cell? ⟨b,off,none⟩=some (.int .u8 k):=by simpa using hcb
      clear hcb
      by_cases hk8:8<k
      · have HN:Hid (numR (k::tl)=(0,0,11)):=by show _=_;simp[numR,hk8]
        go_enter func75,ntmps75
        go_wp2_with fail
        go_quiet (fail)
        go_wp2_with fail
        go_ret3
        rw[HN.out]
        exact⟨rfl,_,rfl⟩
      · by_cases hkl:(tl.length:Int)<k
        · have HN:Hid (numR (k::tl)=(0,0,10)):=by show _=_;simp[numR,hk8,hkl]
          go_enter func75,ntmps75
          go_wp2_with fail
          go_quiet (fail)
          go_wp2_with fail
          go_ret3
          rw[HN.out]
          exact⟨rfl,_,rfl⟩
        · obtain⟨q,hqk⟩:∃q:Nat,k.toNat=q:=⟨_,rfl⟩
          have hkq:(q:Int)=k:=by omega
          have hq:q≤tl.length:=by omega
          have hds:(tl.take q).length=q:=List.length_take_of_le hq
          have hzd:∀z∈tl.take q,0≤z∧z<256:=fun z hz=>hr.2.1 z (by simp[List.mem_of_mem_take hz])
          have HC:Hid (∀t,1≤t→t≤q→w.cell? ⟨b,off+t,none⟩=some (.int .u8 ((tl.take q).getD (t - 1) 0))):=by
            show ∀t,_
            intro t ht1 ht2
            obtain⟨b',off',hx,_,hcx,_⟩:=hr.get t (by simp;omega)
            simp only[Option.some.injEq,Addr.mk.injEq]at hx
            obtain⟨rfl,rfl,_⟩:=hx
            rw[hcx]
            obtain⟨u,rfl⟩:∃u,t=u+1:=⟨t - 1,by omega⟩
            simp only[List.getD_eq_getElem?_getD,List.getElem?_cons_succ,Nat.add_sub_cancel,List.getElem?_take]
            rw[if_pos (by omega)]
          have h8:=val8 (tl.take q) hzd (by omega)
          rw[hds]at h8
          have HN:Hid (numR (k::tl)=if(valR (tl.take q)).2=0 then((valR (tl.take q)).1,1+q,0)else(0,0,(valR (tl.take q)).2)):=by
            show _=_
            simp only[numR,if_neg hk8,if_neg hkl,hqk]
          have HVT:Hid (∀j,j<q→val ((tl.take q).take (j+1))=val ((tl.take q).take j)*256+(tl.take q).getD j 0∧0≤val ((tl.take q).take j)∧val ((tl.take q).take (j+1))≤val (tl.take q)∧0≤(tl.take q).getD j 0∧(tl.take q).getD j 0<256):=by
            show ∀j,_
            intro j hj
            refine⟨zb7 _ j (by omega),?_⟩
            have h1:=zaZ ((tl.take q).take j) (fun z hz'=>hzd z (List.mem_of_mem_take hz'))
            refine⟨h1.1,zg7 _ hzd (j+1) (by omega),?_⟩
            rw[List.getD_eq_getElem?_getD,List.getElem?_eq_getElem (by omega)]
            exact hzd _ (List.getElem_mem _)
          have HH:Hid (∀d,0<q→(tl.take q).getD 0 0=d→((tl.take q).head? =some 0↔d=0)):=by
            show ∀d,_
            intro d hq0 hd
            cases hc:tl.take q with
            |nil=>rw[hc]at hds;simp at hds;omega
            |cons x r=>rw[hc]at hd;simp at hd ⊢;rw[hd]
          have hvl:=zaZ (tl.take q) hzd
          have HVF:Hid ((tl.take q).take q=tl.take q):=by show _=_;rw[List.take_of_length_le (by omega)]
          generalize tl.take q=ds at *
          have HQ:Hid ((q:Int)=k):=hkq
          clear hqk hkq hr
          by_cases hq0:q=0
          · subst hq0
            have hk00:k=0:=HQ.out.symm
            have hd0:ds=[]:=List.eq_nil_of_length_eq_zero hds
            have HN0:Hid (numR (k::tl)=(0,1,0)):=by
              show _=_
              rw[HN.out,hd0];decide
            subst hk00
            clear hd0 hds h8 hvl HQ
            go_enter func75,ntmps75
            go_wp2_with fail
            go_quiet (fail)
            go_wp2_with fail
            refine wp_loop_rounds 1 ?_
            rw[rounds_succ]
            go_wp2_with fail
            go_ret3
            rw[HN0.out]
            exact⟨rfl,_,rfl⟩
          · obtain⟨d,HD,hcd⟩:∃d,Hid (ds.getD 0 0=d)∧w.cell? ⟨b,off+1,none⟩=some (.int .u8 d):=⟨_,rfl,HC.out 1 (by omega) (by omega)⟩
            have hh:=HH.out d (by omega) HD.out
            have hkpos:0<k:=by have:=HQ.out;omega
            have hl2:(1:Int)<tl.length+1:=by omega
            by_cases hd0:d=0
            · subst hd0
              have HN0:Hid (numR (k::tl)=(0,0,11)):=by
                show _=_
                rw[HN.out]
                have:valR ds=(0,11):=by unfold valR;rw[if_pos (Or.inl (hh.2 rfl))]
                rw[this];rfl
              clear hds h8 hvl hh
              go_enter func75,ntmps75
              go_wp2_with fail
              go_quiet (fail)
              go_wp2_with fail
              go_ret3
              rw[HN0.out]
              exact⟨rfl,_,rfl⟩
            · have hd0':(d==0)=false:=by simpa using hd0
              rw[HD.out]at h8
              by_cases hbad:k=8∧127<d
              · obtain⟨rfl,hd127⟩:=hbad
                have HN0:Hid (numR (8::tl)=(0,0,11)):=by
                  show _=_
                  rw[HN.out]
                  have:valR ds=(0,11):=by unfold valR;rw[if_pos (Or.inr (h8.2 ⟨by have:=HQ.out;omega,hd127⟩))]
                  rw[this];rfl
                clear hds h8 hvl hh
                go_enter func75,ntmps75
                go_wp2_with fail
                go_quiet (fail)
                go_wp2_with fail
                go_ret3
                rw[HN0.out]
                exact⟨rfl,_,rfl⟩
              · have hvn:¬(9223372036854775807<val ds):=fun hv=>hbad ⟨by have:=HQ.out;have:=(h8.1 hv).1;omega,(h8.1 hv).2⟩
                have HN0:Hid (numR (k::tl)=(val ds,1+q,0)):=by
                  show _=_
                  rw[HN.out]
                  have:valR ds=(val ds,0):=by unfold valR;rw[if_neg (fun hc=>hc.elim (fun h=>hd0 (hh.1 h)) hvn)]
                  rw[this];rfl
                have hvv:val ds≤9223372036854775807:=by omega
                clear hds h8 hh hvn
                have hdec:(k==8)=false∨((k==8)=true∧¬127<d):=by
                  by_cases hk8':k=8
                  · exact Or.inr ⟨by simpa using hk8',fun h=>hbad ⟨hk8',h⟩⟩
                  · exact Or.inl (by simpa using hk8')
                clear hbad
                rcases hdec with hdec|⟨hdec,hd127⟩
                all_goals
                  go_enter func75,ntmps75
                  go_wp2_with fail
                  go_quiet (fail)
                  go_wp2_with fail
                  go_loop [7,8] (fun n i=>∃t:Nat,t≤q∧i=.int .i64 ((t:Int)+1)∧n=.int .i64 (val (ds.take t))) (fun _ i=>q+1 - (intOf i).toNat)
                  case atStart=>exact⟨0,by omega,rfl,rfl⟩
                  case round=>
                    obtain⟨t,ht,rfl,rfl⟩:=hrel
                    by_cases hlt:t<q
                    · obtain ⟨z, hcx, hz0, hz1, hx0, hx1, HV⟩ : ∃ z, w.cell? ⟨b, off + (t + 1), none⟩ = some (.int .u8 z) ∧ 0 ≤ z ∧ z < 256 ∧ 0 ≤ val (ds.take t) ∧ 256 * val (ds.take t) + z ≤ 9223372036854775807 ∧ Hid (val (ds.take (t + 1)) = 256 * val (ds.take t) + z) := by
                        obtain⟨e1,e2,e3,e4,e5⟩:=HVT.out t hlt
                        exact⟨_,HC.out (t+1) (by omega) (by omega),e4,e5,e2,by simp only[Nat.add_sub_cancel]at*;omega,by show _=_;rw[e1];simp only[Nat.add_sub_cancel];omega⟩
                      generalize val (ds.take t)=X at *
                      have ht1:(t:Int)+1≤k:=by have:=HQ.out;omega
                      have ht2:(t:Int)+1<tl.length+1:=by omega
                      go_wp2_with fail
                      go_round
                      case rel=>exact⟨t+1,by omega,by go_num,by rw[HV.out]⟩
                      case measure=>simp[intOf];omega
                    · have htq:t=q:=by omega
                      subst htq
                      rw[HVF.out]
                      have ht1:¬((t:Int)+1≤k):=by have:=HQ.out;omega
                      go_wp2_with fail
                      go_ret3
                      rw[HN0.out]
                      refine⟨?_,_,rfl⟩
                      have e10:((1+t:Nat):Int)=1+k:=by have:=HQ.out;omega
                      simp only[e10]
                      exact rfl
open Go.RowKit
open Sha Tal
variable {B : Nat}
theorem zaw (w:World) (k:Nat) (r:Option Nat):w.grownBy (w.drewN k) r:=⟨rfl,rfl,rfl,Nat.le_refl _,fun _ _ _=>rfl⟩
theorem Rf.drewN {w:World} {X:Nat} {zs:List Int} {p:Nat} {e:Int} (h:Rf B w X zs p e) (k:Nat):Rf B (w.drewN k) X zs p e:=by
 obtain⟨hX,⟨a,cap,h0,hc,hm,hr,hne⟩,h1,h2,f0,f1,f2,hp,hl⟩:=h
 refine⟨by simpa using hX,⟨a,cap,by simpa using h0,hc,hm,hr.gb (zaw w k (some X)) (.inr (zbK hne)),hne⟩,by simpa using h1,by simpa using h2,by simpa using f0,by simpa using f1,by simpa using f2,hp,hl⟩
theorem Rf.set2 {w:World} {X:Nat} {zs:List Int} {p:Nat} {e:Int} (h:Rf B w X zs p e) (e':Int):Rf B (w.setCell ⟨X,2,none⟩ (.int .i64 e')) X zs p e':=by
 obtain⟨hX,⟨a,cap,h0,hc,hm,hr,hne⟩,h1,h2,f0,f1,f2,hp,hl⟩:=h
 exact⟨by simpa [World.setCell]using hX,⟨a,cap,(World.cell?_setCell_other _ _ _ _ (by simp)).trans h0,hc,hm,hr.gb (zN w X 2 _) (.inr (zbK hne)),hne⟩,(World.cell?_setCell_other _ _ _ _ (by simp)).trans h1,World.cell?_setCell_same _ _ _ h2,
  (World.frozen?_setCell _ _ _ _).trans f0,(World.frozen?_setCell _ _ _ _).trans f1,(World.frozen?_setCell _ _ _ _).trans f2,hp,hl⟩
theorem Rf.set1 {w:World} {X:Nat} {zs:List Int} {p:Nat} {e:Int} (h:Rf B w X zs p e) (p':Nat) (hp':p'≤zs.length):Rf B (w.setCell ⟨X,1,none⟩ (.int .i64 (p':Int))) X zs p' e:=by
 obtain⟨hX,⟨a,cap,h0,hc,hm,hr,hne⟩,h1,h2,f0,f1,f2,hp,hl⟩:=h
 exact⟨by simpa [World.setCell]using hX,⟨a,cap,(World.cell?_setCell_other _ _ _ _ (by simp)).trans h0,hc,hm,hr.gb (zN w X 1 _) (.inr (zbK hne)),hne⟩,World.cell?_setCell_same _ _ _ h1,(World.cell?_setCell_other _ _ _ _ (by simp)).trans h2,
  (World.frozen?_setCell _ _ _ _).trans f0,(World.frozen?_setCell _ _ _ _).trans f1,(World.frozen?_setCell _ _ _ _).trans f2,hp',hl⟩
def RSt (B:Nat) (w:World) (X:Nat) (rest:List Int) (e:Int):Prop:=∃zs p,Rf B w X zs p e∧(e=0→zs.drop p=rest)
theorem RSt.other {w:World} {X:Nat} {rest:List Int} {e:Int} (h:RSt B w X rest e) (he:e≠0) (rest':List Int):RSt B w X rest' e:=by
 obtain⟨zs,p,h1,_⟩:=h
 exact⟨zs,p,h1,fun h0=>absurd h0 he⟩
theorem ziU (zs:List Int) (hz:∀z∈zs,0≤z∧z<256) (h:(numR zs).2.2=0):(numR zs).2.1≤zs.length:=(zct zs hz h).2.1
theorem za9 (X:Nat) (rest:List Int) (e most:Int) (w:World) (h:RSt B w X rest e):
  Calls prog 44 #[.pointer (some ⟨X,0,none⟩),.int .i64 most] w fun en w'=>en=.returned (.int .i64 (numS rest e most).1)∧RSt B w' X (numS rest e most).2.1 (numS rest e most).2.2∧w.grownBy w' (some X):=by
 obtain⟨zs,p,hR,hd⟩:=h
 by_cases he:e=0
 ·subst he
  have hd:=hd rfl
  subst hd
  have cn:=zdg X zs p 0 w hR
  have hlen:(numR (zs.drop p)).2.2=0→(numR (zs.drop p)).2.1≤(zs.drop p).length:=by
   obtain⟨a,cap,_,_,_,hr⟩:=hR.rest
   exact ziU _ hr.2.1
  rw[List.length_drop]at hlen
  have HS:Hid (numS (zs.drop p) 0 most=if(numR (zs.drop p)).2.2=0 then(if most<(numR (zs.drop p)).1 then(0,zs.drop p,3)else((numR (zs.drop p)).1,(zs.drop p).drop (numR (zs.drop p)).2.1,0))else(0,zs.drop p,(numR (zs.drop p)).2.2)):=by show _=_;simp[numS]
  generalize (numR (zs.drop p)).1=v at *
  generalize (numR (zs.drop p)).2.1=c at *
  generalize (numR (zs.drop p)).2.2=er at *
  have hl5:=hR.2.2.2.2.2.2.2.2
  have hpl:=hR.2.2.2.2.2.2.2.1
  by_cases her:er=0
  ·subst her
   have hcl:=hlen rfl
   clear hlen
   rw[if_pos rfl]at HS
   by_cases hmost:most<v
   ·rw[if_pos hmost]at HS
    obtain⟨_,_,_,h2,_⟩:=id hR
    go_enter func44,ntmps44
    go_wp2_with fail
    refine cn.mono ?_
    rintro en w1 ⟨rfl,k,rfl⟩
    clear cn
    have hR1:=hR.drewN k
    have f2:=hR1.2.2.2.2.2.2.1
    have h2':=hR1.2.2.2.1
    go_wp2_with fail
    go_ret
    rw[HS.out]
    exact⟨rfl,⟨zs,p,hR1.set2 3,fun h=>by cases h⟩,zt (zaw w k _) (zN _ X 2 _)⟩
   ·rw[if_neg hmost]at HS
    obtain⟨_,_,_,h2,_⟩:=id hR
    go_enter func44,ntmps44
    go_wp2_with fail
    refine cn.mono ?_
    rintro en w1 ⟨rfl,k,rfl⟩
    clear cn
    have hR1:=hR.drewN k
    have f1:=hR1.2.2.2.2.2.1
    have h1':=hR1.2.2.1
    have hR2:=hR1.set1 (p+c) (by omega)
    have ec:((p+c:Nat):Int)=(p:Int)+(c:Int):=by omega
    rw[ec]at hR2
    clear ec
    go_wp2_with fail
    go_ret
    rw[HS.out]
    exact⟨rfl,⟨zs,p+c,hR2,fun _=>by rw[List.drop_drop]⟩,zt (zaw w k _) (zN _ X 1 _)⟩
  ·have her':(er==0)=false:=by simpa using her
   rw[if_neg her]at HS
   obtain⟨_,_,_,h2,_⟩:=id hR
   clear hlen
   go_enter func44,ntmps44
   go_wp2_with fail
   refine cn.mono ?_
   rintro en w1 ⟨rfl,k,rfl⟩
   clear cn
   have hR1:=hR.drewN k
   have f2:=hR1.2.2.2.2.2.2.1
   have h2':=hR1.2.2.2.1
   go_wp2_with fail
   go_ret
   rw[HS.out]
   exact⟨rfl,⟨zs,p,hR1.set2 er,fun h=>absurd h her⟩,zt (zaw w k _) (zN _ X 2 _)⟩
 ·have HS:Hid (numS rest e most=(0,rest,e)):=by show _=_;simp[numS,he]
  have he':(e==0)=false:=by simpa using he
  obtain⟨_,_,_,h2,_⟩:=id hR
  go_enter func44,ntmps44
  go_wp2_with fail
  go_ret
  rw[HS.out]
  exact⟨rfl,⟨zs,p,hR,fun h=>absurd h he⟩,zaF _ _⟩
end Go.Proofs.YtcbpbkefggekmaaGreatDoor
namespace Go.Proofs.YtcbpbkefggekmaaGreatDoor
open Go.RowKit
open Sha Tal
variable {B : Nat}
theorem ziT (rest:List Int) (hz:∀z∈rest,0≤z∧z<256):numS rest 0 9223372036854775807=if(numR rest).2.2=0 then((numR rest).1,rest.drop (numR rest).2.1,0)else(0,rest,(numR rest).2.2):=by
 unfold numS
 rw[if_pos rfl]
 by_cases h:(numR rest).2.2=0
 ·have:=(zct rest hz h).2.2.2
  rw[if_pos h,if_pos h,if_neg (by omega)]
 ·rw[if_neg h,if_neg h]
theorem zde (X:Nat) (zs:List Int) (p:Nat) (most:Int) (w:World) (hR:Rf B w X zs p 0) (v:Int) (c:Nat) (er er':Int)
  (hn:numR (zs.drop p)=(v,c,er)) (h:(er≠0∧er'=er)∨(er=0∧most<v∧er'=3)∨(er=0∧¬most<v∧(zs.length:Int) - p - c<v∧er'=10)) (hcl:er=0→c≤zs.length - p):
  Calls prog 45 #[.pointer (some ⟨X,0,none⟩),.int .i64 most] w fun en w'=>en=.returned (.string ⟨#[]⟩)∧RSt B w' X [] er'∧w.grownBy w' (some X):=by
 have cn:=zdg X zs p 0 w hR
 rw[hn]at cn
 have hl5:=hR.2.2.2.2.2.2.2.2
 have hpl:=hR.2.2.2.2.2.2.2.1
 have h2:=hR.2.2.2.1
 have f2:=hR.2.2.2.2.2.2.1
 have h1:=hR.2.2.1
 obtain⟨a,cap,h0,hc,hm,hr⟩:=hR.rest
 rcases h with⟨her,rfl⟩|⟨rfl,hmost,rfl⟩|⟨rfl,hmost,hfew,rfl⟩
 ·have her':(er'==0)=false:=by simpa using her
  go_enter func45,ntmps45
  go_wp2_with fail
  refine cn.mono ?_
  rintro en w1 ⟨rfl,k,rfl⟩
  clear cn
  go_wp2_with fail
  go_quiet (fail)
  go_wp2_with fail
  go_ret
  exact⟨rfl,⟨zs,p,(hR.drewN (k+nq)).set2 er',fun h=>absurd h her⟩,zt (zaw w (k+nq) _) (zN _ X 2 _)⟩
 ·clear hcl
  go_enter func45,ntmps45
  go_wp2_with fail
  refine cn.mono ?_
  rintro en w1 ⟨rfl,k,rfl⟩
  clear cn
  go_wp2_with fail
  go_quiet (fail)
  go_wp2_with fail
  go_ret
  exact⟨rfl,⟨zs,p,(hR.drewN (k+nq)).set2 3,fun h=>absurd h (by omega)⟩,zt (zaw w (k+nq) _) (zN _ X 2 _)⟩
 ·have hcl':=hcl rfl
  clear hcl
  go_enter func45,ntmps45
  go_wp2_with fail
  refine cn.mono ?_
  rintro en w1 ⟨rfl,k,rfl⟩
  clear cn
  go_wp2_with fail
  go_quiet (fail)
  go_wp2_with fail
  go_ret
  exact⟨rfl,⟨zs,p,(hR.drewN (k+nq)).set2 10,fun h=>absurd h (by omega)⟩,zt (zaw w (k+nq) _) (zN _ X 2 _)⟩
theorem zh7 (X:Nat) (zs:List Int) (p:Nat) (most:Int) (w:World) (hR:Rf B w X zs p 0) (m c:Nat)
  (hn:numR (zs.drop p)=((m:Int),c,0)) (hmost:¬most<(m:Int)) (hmc:p+c+m≤zs.length):
  Calls prog 45 #[.pointer (some ⟨X,0,none⟩),.int .i64 most] w fun en w'=>en=.returned (.string (strOf ((zs.drop (p+c)).take m)))∧RSt B w' X (zs.drop (p+c+m)) 0∧w.grownBy w' (some X):=by
 have cn:=zdg X zs p 0 w hR
 rw[hn]at cn
 have hl5:=hR.2.2.2.2.2.2.2.2
 have hpl:=hR.2.2.2.2.2.2.2.1
 have h2:=hR.2.2.2.1
 have f1:=hR.2.2.2.2.2.1
 have h1:=hR.2.2.1
 obtain⟨a,cap,h0,hc,hm,hrow,hne⟩:=id hR.2.1
 unfold maxLen at hm
 have hfew:¬((zs.length:Int) - p - c<m):=by omega
 have hS:∀k n,(convert 59 9 (.slice (cutA a cap (p+c)) m (cap - (p+c)))).run prog (((w.drewN k).setCell ⟨X,1,none⟩ (.int .i64 ((p:Int)+c+m))).drewN n)=.ok (.string (strOf ((zs.drop (p+c)).take m))) (((w.drewN k).setCell ⟨X,1,none⟩ (.int .i64 ((p:Int)+c+m))).drewN n):=by
  intro k n
  have hg:w.grownBy (((w.drewN k).setCell ⟨X,1,none⟩ (.int .i64 ((p:Int)+c+m))).drewN n) (some X):=zt (zt (zaw w k _) (zN _ X 1 _)) (zaw _ n _)
  have hr:=((hrow.drop (p+c) cap (by omega) hc).take m).gb hg (.inr (zbv (zbK hne)))
  have hs:=hr.str (cap - (p+c))
  rw[List.length_take_of_le (by rw[List.length_drop];omega)]at hs
  exact hs
 have hRf:∀k n,Rf B (((w.drewN k).setCell ⟨X,1,none⟩ (.int .i64 ((p:Int)+c+m))).drewN n) X zs (p+c+m) 0:=by
  intro k n
  have:=((hR.drewN k).set1 (p+c+m) hmc).drewN n
  have e:((p+c+m:Nat):Int)=(p:Int)+c+m:=by omega
  rw[e]at this;exact this
 by_cases hcp:cap=p+c
 ·have hA:cutA a cap (p+c)=a:=by unfold cutA;rw[if_pos hcp]
  rw[hA]at hS
  clear hA
  obtain rfl:m=0:=by omega
  subst hcp
  have e0:((0:Nat):Int)=0:=rfl
  simp only[e0,Int.add_zero,Nat.add_zero,Nat.sub_self]at hS hRf cn hfew hmost ⊢
  clear e0
  go_enter func45,ntmps45
  go_wp2_with fail
  refine cn.mono ?_
  rintro en w1 ⟨rfl,k,rfl⟩
  clear cn
  go_wp2_with fail
  go_quiet (fail)
  go_wp2_with fail
  have hS':=hS (k+nq)
  go_quiet (fail)
  go_wp2_with fail
  go_ret
  exact⟨rfl,⟨zs,p+c,hRf _ _,fun _=>rfl⟩,zt (zt (zaw w _ _) (zN _ X 1 _)) (zaw _ _ _)⟩
 ·have hA:cutA a cap (p+c)=a.map (fun x=>x.add (p+c)):=by unfold cutA;rw[if_neg hcp]
  generalize hAA:Option.map (fun x:Addr=>x.add (p+c)) a=A at *
  rw[hA]at hS
  clear hA
  go_enter func45,ntmps45
  go_wp2_with fail
  refine cn.mono ?_
  rintro en w1 ⟨rfl,k,rfl⟩
  clear cn
  go_wp2_with fail
  go_quiet (fail)
  go_wp2_with fail
  have hS':=hS (k+nq)
  go_quiet (fail)
  go_wp2_with fail
  go_ret
  exact⟨rfl,⟨zs,p+c+m,hRf _ _,fun _=>rfl⟩,zt (zt (zaw w _ _) (zN _ X 1 _)) (zaw _ _ _)⟩
end Go.Proofs.YtcbpbkefggekmaaGreatDoor
namespace Go.Proofs.YtcbpbkefggekmaaGreatDoor
open Go.RowKit
open Sha Tal
variable {B : Nat}
theorem zeM (X:Nat) (rest:List Int) (e most:Int) (w:World) (h:RSt B w X rest e):
  Calls prog 45 #[.pointer (some ⟨X,0,none⟩),.int .i64 most] w fun en w'=>en=.returned (.string (strOf (textS rest e most).1))∧RSt B w' X (textS rest e most).2.1 (textS rest e most).2.2∧w.grownBy w' (some X):=by
 obtain⟨zs,p,hR,hd⟩:=h
 by_cases he:e=0
 ·subst he
  have hd:=hd rfl
  subst hd
  obtain⟨a,cap,h0,hc,hm,hr⟩:=hR.rest
  have hz:=hr.2.1
  have hN:=ziT (zs.drop p) hz
  have hform:=zct (zs.drop p) hz
  rw[List.length_drop]at hform
  have hpl:=hR.2.2.2.2.2.2.2.1
  obtain⟨v,c,er,hn⟩:∃v c er,numR (zs.drop p)=(v,c,er):=⟨_,_,_,rfl⟩
  rw[hn]at hN hform
  simp only at hN hform
  by_cases her:er=0
  ·subst her
   obtain⟨_,hcl,hv0,hv1⟩:=hform rfl
   rw[if_pos rfl]at hN
   obtain⟨m,rfl⟩:=Int.eq_ofNat_of_zero_le hv0
   by_cases hmost:most<(m:Int)
   ·have e1:textS (zs.drop p) 0 most=([],zs.drop p,3):=by unfold textS;rw[hN];simp[hmost]
    rw[e1]
    refine(zde X zs p most w hR m c 0 3 hn (Or.inr (Or.inl ⟨rfl,hmost,rfl⟩)) (fun _=>hcl)).mono ?_
    rintro en w1 ⟨rfl,h1,h2⟩
    exact⟨rfl,h1.other (by omega) _,h2⟩
   ·by_cases hfew:(zs.length:Int) - p - c<m
    ·have e1:textS (zs.drop p) 0 most=([],zs.drop p,10):=by
      unfold textS;rw[hN]
      have:(((zs.drop p).drop c).length:Int)<m:=by rw[List.length_drop,List.length_drop];omega
      simp only[if_pos trivial,if_neg hmost,if_pos this]
     rw[e1]
     refine(zde X zs p most w hR m c 0 10 hn (Or.inr (Or.inr ⟨rfl,hmost,hfew,rfl⟩)) (fun _=>hcl)).mono ?_
     rintro en w1 ⟨rfl,h1,h2⟩
     exact⟨rfl,h1.other (by omega) _,h2⟩
    ·have e1:textS (zs.drop p) 0 most=((zs.drop (p+c)).take m,zs.drop (p+c+m),0):=by
      unfold textS;rw[hN]
      have:¬((((zs.drop p).drop c).length:Int)<m):=by rw[List.length_drop,List.length_drop];omega
      simp only[if_pos trivial,if_neg hmost]
      rw[if_neg this]
      simp only[Int.toNat_natCast,List.drop_drop]
     rw[e1]
     exact zh7 X zs p most w hR m c hn hmost (by omega)
  ·rw[if_neg her]at hN
   have e1:textS (zs.drop p) 0 most=([],zs.drop p,er):=by unfold textS;rw[hN];simp[her]
   rw[e1]
   refine(zde X zs p most w hR v c er er hn (Or.inl ⟨her,rfl⟩) (fun h=>absurd h her)).mono ?_
   rintro en w1 ⟨rfl,h1,h2⟩
   exact⟨rfl,h1.other her _,h2⟩
 ·have HS:Hid (textS rest e most=([],rest,e)):=by
   show _=_
   have:numS rest e 9223372036854775807=(0,rest,e):=by simp[numS,he]
   unfold textS;rw[this];simp[he]
  have he':(e==0)=false:=by simpa using he
  obtain⟨_,_,_,h2,_⟩:=id hR
  go_enter func45,ntmps45
  go_wp2_with fail
  go_ret
  rw[HS.out]
  exact⟨rfl,⟨zs,p,hR,fun h=>absurd h he⟩,zaF _ _⟩
end Go.Proofs.YtcbpbkefggekmaaGreatDoor
namespace Go.Proofs.YtcbpbkefggekmaaGreatDoor
open Go.RowKit
open Sha Tal
variable {B : Nat}
def rawS (rest:List Int) (e n:Int):List Int ×List Int ×Int:=
 if e=0 then
  if n<0 then([],rest,2)
  else if(rest.length:Int)<n then([],rest,10)
  else(rest.take n.toNat,rest.drop n.toNat,0)
 else([],rest,e)
theorem zO {w w':World} {b j:Nat} (h:w'.heap[b]? =w.heap[b]?):w'.cell? ⟨b,j,none⟩=w.cell? ⟨b,j,none⟩∧w'.frozen? ⟨b,j,none⟩=w.frozen? ⟨b,j,none⟩:=by
 constructor
 ·simp only[World.cell?,h]
 ·simp only[World.frozen?,h]
theorem RdE.below {w w':World} {R:Nat} {e:Int} (h:RdE w R e) (hb:w'.heap[R]? =w.heap[R]?) (hs:w.heap.size≤w'.heap.size):RdE w' R e:=by
 obtain⟨hR,⟨a,n,c,h0⟩,h1,h2,f0,f1,f2⟩:=h
 have hc:=fun j=>(zO (j:=j) hb)
 exact⟨Nat.lt_of_lt_of_le hR hs,⟨a,n,c,(hc 0).1.trans h0⟩,(hc 1).1.trans h1,(hc 2).1.trans h2,(hc 0).2.trans f0,(hc 1).2.trans f1,(hc 2).2.trans f2⟩
theorem St.below {w w':World} {R:Nat} {rest:List Int} {e:Int} (h:St w R rest e) (hb:Below w.heap.size w w'):St w' R rest e:=by
 have hR:=h.1.1
 refine⟨h.1.below (hb.block R hR) hb.size,fun he=>?_⟩
 obtain⟨a,cap,h0,hc,hm,hr,hne⟩:=h.2 he
 exact⟨a,cap,(zO (hb.block R hR)).1.trans h0,hc,hm,hr.below hb,hne⟩
theorem Rf.below {w w':World} {X:Nat} {zs:List Int} {p:Nat} {e:Int} (h:Rf B w X zs p e) (hb:Below w.heap.size w w'):Rf B w' X zs p e:=by
 obtain⟨hX,⟨a,cap,h0,hc,hm,hr,hne⟩,h1,h2,f0,f1,f2,hp,hl⟩:=h
 have hk:=fun j=>(zO (j:=j) (hb.block X hX))
 exact⟨Nat.lt_of_lt_of_le hX hb.size,⟨a,cap,(hk 0).1.trans h0,hc,hm,hr.below hb,hne⟩,(hk 1).1.trans h1,(hk 2).1.trans h2,(hk 0).2.trans f0,(hk 1).2.trans f1,(hk 2).2.trans f2,hp,hl⟩
theorem RSt.below {w w':World} {X:Nat} {rest:List Int} {e:Int} (h:RSt B w X rest e) (hb:Below w.heap.size w w'):RSt B w' X rest e:=by
 obtain⟨zs,p,h1,h2⟩:=h
 exact⟨zs,p,h1.below hb,h2⟩
theorem Mine.nil (w:World) (B:Nat):Mine w B (.slice none 0 0) []:=⟨World.ownsRow_nil _ _ _ _,by simp⟩
theorem Mine.mono' {w:World} {B B':Nat} {v:Value} {zs:List Int} (h:Mine w B v zs) (hb:B'≤B):Mine w B' v zs:=by
 refine⟨⟨h.1.1,?_⟩,h.2⟩
 rcases h.1.2 with h|⟨g,cap,cur,hv,hg,r⟩
 ·exact .inl h
 ·exact .inr ⟨g,cap,cur,hv,Nat.le_trans hb hg,r⟩
end Go.Proofs.YtcbpbkefggekmaaGreatDoor
namespace Go.Proofs.YtcbpbkefggekmaaGreatDoor
open Go.RowKit
open Sha Tal
theorem zf8 (s:ByteArray) (hs:s.size≤1099511627) (w:World):∃c w1,(convert 9 59 (.string s)).run prog w=.ok (.slice (some ⟨w.heap.size,0,none⟩) (strL s).length c) w1∧RowAt w1 (some ⟨w.heap.size,0,none⟩) (strL s)∧Below w.heap.size w w1:=by
 refine⟨grownCap w s.size 0 5,Lib.bytesWorld w 5 s,?_,?_,?_⟩
 ·rw[Lib.run_convert_string_bytes w 9 59 5 s underlying9 underlying59 underlying5,zad]
 ·refine⟨by rw[zad];unfold maxLen;omega,zbz s,.inr ⟨_,_,rfl,by rw[Lib.bytesWorld_size];omega,fun j v hv=>?_⟩⟩
  have hj:j<s.size:=by
   have:=(List.getElem?_eq_some_iff.1 hv).1
   rwa [v8_length,zad]at this
  rw[Nat.zero_add,Lib.bytesWorld_cell w 5 s j hj,←hv]
  have hj':j<s.data.toList.length:=by simpa using hj
  simp only[v8,strL,List.map_map,List.getElem?_map,List.getElem?_eq_getElem hj',List.getD_eq_getElem?_getD,Option.getD_some,Option.map_some,Function.comp]
 ·exact⟨rfl,rfl,rfl,by rw[Lib.bytesWorld_size];omega,fun k hk=>Lib.bytesWorld_at_old w 5 s k hk⟩
structure MrAt (w:World) (Q R:Nat) (z:Bool):Prop where
 lt:Q<w.heap.size
 ne:R<Q
 c0:w.cell? ⟨Q,0,none⟩=some (.pointer (some ⟨R,0,none⟩))
 c1:w.cell? ⟨Q,1,none⟩=some (.bool z)
 f1:w.frozen? ⟨Q,1,none⟩=false
theorem MrAt.at {w w':World} {Q R:Nat} {z:Bool} (h:MrAt w Q R z) (hb:w'.heap[Q]? =w.heap[Q]?) (hs:w.heap.size≤w'.heap.size):MrAt w' Q R z:=
 ⟨Nat.lt_of_lt_of_le h.lt hs,h.ne,(zO hb).1.trans h.c0,(zO hb).1.trans h.c1,(zO hb).2.trans h.f1⟩
theorem MrAt.gb {w w':World} {Q R:Nat} {z:Bool} (h:MrAt w Q R z) (hg:w.grownBy w' (some R)):MrAt w' Q R z:=
 h.at (hg.block Q h.lt (fun e=>by have:=h.ne;cases e;omega)) hg.size
theorem MrAt.below {w w':World} {Q R:Nat} {z:Bool} (h:MrAt w Q R z) (hb:Below w.heap.size w w'):MrAt w' Q R z:=h.at (hb.block Q h.lt) hb.size
def doneE (rest:List Int) (e:Int):Int:=if e=0 then(if rest.length=0 then 0 else 12)else e
theorem zkh (R:Nat) (rest:List Int) (e:Int) (w:World) (h:St w R rest e):Calls prog 42 #[.pointer (some ⟨R,0,none⟩)] w fun en w'=>en=.returned (.int .i64 (doneE rest e))∧w'=w:=by
 have ce:=zat R e w h.1
 by_cases he:e=0
 ·subst he
  obtain⟨a,cap,h0,_⟩:=h.2 rfl
  have cl:=zbs R a rest.length cap w h0
  have E:doneE rest 0=if rest.length=0 then 0 else 12:=by simp[doneE]
  rw[E]
  clear E h
  by_cases hr:rest.length=0
  ·rw[if_pos hr]
   rw[hr]at cl
   clear hr h0
   go_enter func42,ntmps42
   go_wp2_with fail
   refine ce.mono ?_
   rintro e1 w1 ⟨rfl,hx⟩
   obtain rfl:=hx.symm
   clear hx
   go_wp2_with fail
   refine cl.mono ?_
   rintro e2 w2 ⟨rfl,hx⟩
   obtain rfl:=hx.symm
   clear hx
   go_wp2
   go_ret
   exact⟨rfl,rfl⟩
  ·rw[if_neg hr]
   have hr':(0:Int)<rest.length:=by omega
   obtain⟨n,hn⟩:∃n:Int,(rest.length:Int)=n:=⟨_,rfl⟩
   rw[hn]at cl hr'
   clear hr hn h0
   go_enter func42,ntmps42
   go_wp2_with fail
   refine ce.mono ?_
   rintro e1 w1 ⟨rfl,hx⟩
   obtain rfl:=hx.symm
   clear hx
   go_wp2_with fail
   refine cl.mono ?_
   rintro e2 w2 ⟨rfl,hx⟩
   obtain rfl:=hx.symm
   clear hx
   go_wp2
   go_ret
   exact⟨rfl,rfl⟩
 ·have E:doneE rest e=e:=by simp[doneE,he]
  rw[E]
  have n1:(e !=0)=true:=bne_iff_ne.2 he
  clear E h he
  go_enter func42,ntmps42
  go_wp2_with fail
  refine ce.mono ?_
  rintro e1 w1 ⟨rfl,hx⟩
  obtain rfl:=hx.symm
  clear hx
  go_wp2
  go_ret
  exact⟨rfl,rfl⟩
theorem zjX (Q R:Nat) (rest:List Int) (e:Int) (w:World) (h:St w R rest e) (hq:MrAt w Q R false):Calls prog 67 #[.pointer (some ⟨Q,0,none⟩)] w fun en w'=>en=.returned (.int .i64 (doneE rest e))∧w'=w:=by
 have cd:=zkh R rest e w h
 have c0:=hq.c0
 have c1:=hq.c1
 generalize doneE rest e=r at *
 clear h hq
 go_enter func67,ntmps67
 go_wp2_with fail
 refine cd.mono ?_
 rintro e1 w1 ⟨rfl,hx⟩
 obtain rfl:=hx.symm
 clear hx cd
 go_wp2
 go_ret
 exact⟨rfl,rfl⟩
theorem zY {w w':World} {b o n:Nat} (h:w.there b o n) (hb:w'.heap[b]? =w.heap[b]?):w'.there b o n:=fun j hj=>by
 have:=h j hj
 exact⟨by rw[(zO hb).1];exact this.1,(zO hb).2.trans this.2⟩
theorem St.belowN {w w':World} {R n:Nat} {rest:List Int} {e:Int} (h:St w R rest e) (hb:Below n w w') (hn:R<n):St w' R rest e:=by
 refine⟨h.1.below (hb.block R hn) hb.size,fun he=>?_⟩
 obtain⟨a,cap,h0,hc,hm,hr,hne⟩:=h.2 he
 refine⟨a,cap,(zO (hb.block R hn)).1.trans h0,hc,hm,⟨hr.1,hr.2.1,?_⟩,hne⟩
 rcases hr.2.2 with q|⟨b,off,rfl,q1,q2⟩
 ·exact .inl q
 ·exact .inr ⟨b,off,rfl,Nat.lt_of_lt_of_le q1 hb.size,zd q2 hb (by have:=hne _ rfl;simp only at this;omega)⟩
theorem zei (s:ByteArray):strOf (strL s)=s:=by
 unfold strOf strL
 rw[foldl_push_byteCells]
 cases s;simp
namespace Tal
theorem zjy (n:Nat) (h0:0<n) (h:n<2^63):(digs n).head? ≠some 0:=by
  obtain⟨_,b,c⟩:=zb5 8 n h (by omega)
  obtain⟨c1,c2⟩:=c h0
  have hg:=zdE (wid n) n 0 c1
  have hl:=zaC n
  unfold digs at hl ⊢
  cases hd:digK (wid n) n with
  |nil=>simp
  |cons x tl=>
    rw[hd]at hg
    have hg':x=((n / 256^(wid n - 1 - 0)%256:Nat):Int):=hg
    rw[Nat.sub_zero]at hg'
    have hlt:n / 256^(wid n - 1)<256:=by
      rw[Nat.div_lt_iff_lt_mul (Nat.pow_pos (by omega)),Nat.mul_comm,←Nat.pow_succ]
      have e:(wid n - 1).succ=wid n:=by omega
      rw[e];exact b
    have hpos:0<n / 256^(wid n - 1):=Nat.div_pos c2 (Nat.pow_pos (by omega))
    rw[Nat.mod_eq_of_lt hlt]at hg'
    intro hc
    simp only[List.head?_cons,Option.some.injEq]at hc
    omega
theorem ziV (n:Nat) (h:n<2^63) (more:List Int):numR (numB n++more)=((n:Int),1+wid n,0):=by
 have hw:=za6 n h
 have hv:=zg8 n h
 have ht:(digs n++more).take (wid n)=digs n:=by rw[List.take_append_of_le_length (by rw[zaC];exact Nat.le_refl _),List.take_of_length_le (by rw[zaC];exact Nat.le_refl _)]
 have hh:¬((digs n).head? =some 0∨9223372036854775807<val (digs n)):=by
  rw[hv]
  by_cases h0:n=0
  ·subst h0;rw[zdC];simp
  ·intro hc
   rcases hc with hc|hc
   ·exact zjy n (by omega) h hc
   ·omega
 have e:valR (digs n)=((n:Int),0):=by unfold valR;rw[if_neg hh,hv]
 have e0:numB n++more=(wid n:Int)::(digs n++more):=rfl
 rw[e0]
 simp only[numR]
 rw[if_neg (by omega),if_neg (by rw[List.length_append,zaC];omega),Int.toNat_natCast,ht,e]
 simp
theorem zbV (x most:Int) (h0:0≤x) (h1:x≤9223372036854775807) (hm:x≤most) (more:List Int):numS (putL x++more) 0 most=(x,more,0):=by
 have e:putL x=numB x.toNat:=by unfold putL;rw[if_neg (by omega)]
 have hr:=ziV x.toNat (by omega) more
 have hx:((x.toNat:Nat):Int)=x:=by omega
 rw[hx]at hr
 have hd:(numB x.toNat++more).drop (1+wid x.toNat)=more:=by
  have:(numB x.toNat).length=1+wid x.toNat:=by simp only[numB,List.length_cons,zaC];omega
  rw[←this,List.drop_append_of_le_length (Nat.le_refl _)];simp
 unfold numS
 rw[e,hr,if_pos rfl,if_pos rfl,if_neg (by omega),hd]
end Tal
theorem zhi (s:ByteArray) (most:Int) (hs:s.size≤1099511627) (hm:(s.size:Int)≤most) (more:List Int):textS (textL s++more) 0 most=(strL s,more,0):=by
 have e:textL s++more=putL (s.size:Int)++(strL s++more):=by unfold textL;rw[List.append_assoc]
 have hn:=zbV (s.size:Int) 9223372036854775807 (by omega) (by omega) (by omega) (strL s++more)
 unfold textS
 rw[e,hn]
 simp only[Int.toNat_natCast]
 rw[if_pos trivial,if_neg (by omega),if_neg (by rw[List.length_append,zad];omega)]
 have hl:=zad s
 rw[List.take_append_of_le_length (by omega),List.take_of_length_le (by omega),List.drop_append_of_le_length (by omega),List.drop_of_length_le (by omega),List.nil_append]
theorem zej (zs:List Int):(strOf zs).toList=zs.map (fun n=>UInt8.ofNat n.toNat):=by
  have key:∀(zs:List Int) (r:ByteArray),(zs.foldl (fun r n=>r.push (UInt8.ofNat n.toNat)) r).data.toList=r.data.toList++zs.map (fun n=>UInt8.ofNat n.toNat):=by
    intro zs
    induction zs with
    |nil=>intro r;simp
    |cons z zs ih=>intro r;rw[List.foldl_cons,ih];simp[ByteArray.push]
  rw[ByteArray.toList_eq]
  unfold strOf
  rw[key]
  rfl
theorem zhw:∀{xs ys:List Int},(∀z∈xs,0≤z∧z<256)→(∀z∈ys,0≤z∧z<256)→(strOf xs).toList=(strOf ys).toList→xs=ys:=by
 intro xs ys hx hy h
 rw[zej,zej]at h
 have hl:xs.length=ys.length:=by simpa using congrArg List.length h
 apply List.ext_getElem hl
 intro i h1 h2
 have:=congrArg (·[i]?) h
 simp only[List.getElem?_map,List.getElem?_eq_getElem h1,List.getElem?_eq_getElem h2,Option.map_some,Option.some.injEq]at this
 have a1:=hx _ (List.getElem_mem h1)
 have a2:=hy _ (List.getElem_mem h2)
 have:=congrArg UInt8.toNat this
 simp only[UInt8.toNat_ofNat']at this
 omega
open Go.RowKit
open Sha Tal
theorem zbm {fn:Func} {p u:Tmp} {ty:TypeId} (h:fn.results=#[.cell p ty,.tmp u]) (tmps:Array Value) (P:Program) (w:World) {a:Addr} {v:Value} (ha:tmps.getD p undef=.pointer (some a)) (hv:(loadVar ty a).run P w=.ok v w):(results fn tmps).run P w=.ok (.tuple #[v,tmps.getD u undef]) w:=by
 rw[results_cell_tmp h,ha]
 simp[asAddr,hv,Result.andThen]
def RowOf {α:Type} (f:α→List Value) (w:World) (a:Option Addr) (ys:List α):Prop:=ys=[]∨∃b off,a=some ⟨b,off,none⟩∧b<w.heap.size∧w.rangeAt b off (ys.flatMap f)
theorem RowOf.below {α:Type} {f:α→List Value} {w w':World} {a:Option Addr} {ys:List α} (h:RowOf f w a ys) (hb:Below w.heap.size w w'):RowOf f w' a ys:=by
 rcases h with h|⟨b,off,rfl,h1,h2⟩
 ·exact .inl h
 ·exact .inr ⟨b,off,rfl,Nat.lt_of_lt_of_le h1 hb.size,zd h2 hb h1⟩
theorem zjP {α:Type} {f:α→List Value} {k:Nat} {ys:List α} (h:∀y∈ys,(f y).length=k):(ys.flatMap f).length=ys.length*k:=by
  induction ys with
  |nil=>simp
  |cons y ys ih=>
    have h1:=h y (by simp)
    have h2:=ih (fun x hx=>h x (by simp[hx]))
    simp only[List.flatMap_cons,List.length_append,List.length_cons,Nat.add_mul,Nat.one_mul]
    omega
theorem RowOf.elem {α:Type} {f:α→List Value} {k:Nat} {w:World} {a:Option Addr} {ys:List α} (h:RowOf f w a ys) (hk:∀y∈ys,(f y).length=k) (i:Nat) (hi:i<ys.length):∃b off,a=some ⟨b,off,none⟩∧b<w.heap.size∧w.rangeAt b (off+i*k) (f ys[i]):=by
 rcases h with h0|⟨b,off,rfl,h1,h2⟩
 ·subst h0;simp at hi
 ·refine⟨b,off,rfl,h1,?_⟩
  have e:ys.take i++(ys[i]::ys.drop (i+1))=ys:=by rw[←List.drop_eq_getElem_cons hi,List.take_append_drop]
  have e2:ys.flatMap f=(ys.take i).flatMap f++f ys[i]++(ys.drop (i+1)).flatMap f:=by
   have:=congrArg (List.flatMap f) e
   rw[←this]
   simp only[List.flatMap_append,List.flatMap_cons,List.append_assoc]
  rw[e2]at h2
  have h3:=zeP h2
  rwa [zjP (fun y hy=>hk y (List.mem_of_mem_take hy)),List.length_take,Nat.min_eq_left (by omega)]at h3
structure El (α:Type) where
 f:α→List Value
 k:Nat
 ok:α→Prop
 len:∀y,ok y→(f y).length=k
 one:∀y,∀v∈f y,v.oneCell'=true
def RowsAt {α:Type} (E:El α) (w:World) (a:Option Addr) (ys:List α):Prop:=ys.length≤maxLen∧(∀y∈ys,E.ok y)∧RowOf E.f w a ys
theorem RowsAt.below {α:Type} {E:El α} {w w':World} {a:Option Addr} {ys:List α} (h:RowsAt E w a ys) (hb:Below w.heap.size w w'):RowsAt E w' a ys:=⟨h.1,h.2.1,h.2.2.below hb⟩
theorem RowsAt.elem {α:Type} {E:El α} {w:World} {a:Option Addr} {ys:List α} (h:RowsAt E w a ys) (i:Nat) (hi:i<ys.length):∃b off,a=some ⟨b,off,none⟩∧b<w.heap.size∧w.rangeAt b (off+i*E.k) (E.f ys[i]):=h.2.2.elem (fun y hy=>E.len y (h.2.1 y hy)) i hi
theorem RowsAt.none {α:Type} {E:El α} {w:World} {a:Option Addr}:RowsAt E w a []:=⟨by simp,by simp,.inl rfl⟩
structure Sg where
 n:Int
 t:List Int
deriving Inhabited
structure Sg.ok (r:Sg):Prop where
 tl:r.t.length=16
 tb:∀z∈r.t,0≤z∧z<256
 nl:-9223372036854775808≤r.n
 nh:r.n≤9223372036854775807
def Sg.cells (r:Sg):List Value:=.int .i64 r.n::v8 r.t
def SgE:El Sg where
 f:=Sg.cells
 k:=17
 ok:=Sg.ok
 len:=fun r h=>by have:=h.tl;simp[Sg.cells,v8];omega
 one:=fun r v hv=>by
  rcases List.mem_cons.1 hv with rfl|hv
  ·rfl
  ·exact zI r.t v hv
structure Ev where
 n:Int
 s:ByteArray
 t:List Int
deriving Inhabited
structure Ev.ok (r:Ev):Prop where
 tl:r.t.length=16
 tb:∀z∈r.t,0≤z∧z<256
 sl:r.s.size≤maxLen
 nl:-9223372036854775808≤r.n
 nh:r.n≤9223372036854775807
def Ev.cells (r:Ev):List Value:=.int .i64 r.n::.string r.s::v8 r.t
def EvE:El Ev where
 f:=Ev.cells
 k:=18
 ok:=Ev.ok
 len:=fun r h=>by have:=h.tl;simp[Ev.cells,v8];omega
 one:=fun r v hv=>by
  simp only[Ev.cells,List.mem_cons]at hv
  rcases hv with rfl|rfl|hv
  ·rfl
  ·rfl
  ·exact zI r.t v hv
structure Rq where
 c:Int
 n:Int
 s:ByteArray
 t:List Int
deriving Inhabited
structure Rq.ok (r:Rq):Prop where
 tl:r.t.length=16
 tb:∀z∈r.t,0≤z∧z<256
 sl:r.s.size≤maxLen
 cl:-9223372036854775808≤r.c
 ch:r.c≤9223372036854775807
 nl:-9223372036854775808≤r.n
 nh:r.n≤9223372036854775807
def Rq.cells (r:Rq):List Value:=.int .i64 r.c::.int .i64 r.n::.string r.s::v8 r.t
def RqE:El Rq where
 f:=Rq.cells
 k:=19
 ok:=Rq.ok
 len:=fun r h=>by have:=h.tl;simp[Rq.cells,v8];omega
 one:=fun r v hv=>by
  simp only[Rq.cells,List.mem_cons]at hv
  rcases hv with rfl|rfl|rfl|hv
  ·rfl
  ·rfl
  ·rfl
  ·exact zI r.t v hv
theorem zef {a b:ByteArray}:a.toList=b.toList↔a=b:=by
 constructor
 ·intro h
  rw[ByteArray.toList_eq,ByteArray.toList_eq]at h
  exact ByteArray.ext (Array.toList_inj.1 h)
 ·intro h;rw[h]
theorem iszT:(prog.info? 23).map (·.size)=some 16:=by kernel_rfl
theorem zbE (w:World) (q:List Value) (i:Nat) (c:ByteArray) (h:q[i]? =some (.string c)):(part 9 q.toArray i).run prog w=.ok (.string c) w:=by
 simp[part,isAgg,run_underlying underlying9,h]
theorem zbb (w:World) (q:List Value) (i:Nat) (t:List Int) (h:List.take 16 (List.drop i q)=v8 t):(part 23 q.toArray i).run prog w=.ok (.agg (v8 t).toArray) w:=by
 simp[part,isAgg,run_underlying underlying23,zbB iszT,h]
theorem fldSg : (prog.fieldsOf 133).toList.map (fun f => (f.name, f.type, f.offset)) = [("Node", 3, 0), ("Tag", 23, 1)] := by kernel_rfl
theorem undSg:prog.underlying 133=some (.struct (prog.fieldsOf 133)):=by kernel_rfl
theorem sihSg:prog.stoodInHeld 133=false:=by kernel_rfl
def Sg.B (x y:Sg):Bool:=(x.n==y.n)&&((x.t==y.t))
theorem Sg.B_iff {x y:Sg}:Sg.B x y=true↔x=y:=by
 cases x
 cases y
 simp[Sg.B]
theorem Sg.eqIn (x y:Sg) (hx:x.t.length=16) (hy:y.t.length=16) (d:Nat) (w:World):
  (Op.equalIn (d+2+1) 133 (.agg x.cells.toArray) (.agg y.cells.toArray)).run prog w=.ok (Sg.B x y) w:=by
 rw[run_equalIn_struct w (d+2) 133 _ _ undSg sihSg]
 have hf:=fldSg
 generalize (prog.fieldsOf 133).toList=fs at hf
 obtain⟨f0,f1,rfl⟩:∃f0 f1,fs=[f0,f1]:=by
  rcases fs with _|⟨f0,_|⟨f1,_|⟨f2,fs⟩⟩⟩<;>simp at hf
  exact⟨f0,f1,rfl⟩
 simp only[List.map_cons,List.map_nil,List.cons.injEq,Prod.mk.injEq,and_true]at hf
 obtain⟨⟨a0,b0,d0⟩,⟨a1,b1,d1⟩⟩:=hf
 have p0:=zaq w x.cells 0 x.n rfl
 have q0:=zaq w y.cells 0 y.n rfl
 have p1:=zbb w x.cells 1 x.t (by show List.take 16 (v8 x.t)=v8 x.t;rw[List.take_of_length_le (by rw[v8_length,hx];exact Nat.le_refl _)])
 have q1:=zbb w y.cells 1 y.t (by show List.take 16 (v8 y.t)=v8 y.t;rw[List.take_of_length_le (by rw[v8_length,hy];exact Nat.le_refl _)])
 have eI:=fun a b=>run_equalIn_int (P:=prog) w (d+1) 3 .i64 .i64 a b underlying3
 have eT:=zbl (P:=prog) w d 23 5 16 underlying23 underlying5 isz8 x.t y.t hx hy
 unfold Sg.B
 generalize x.cells.toArray=q at *
 generalize y.cells.toArray=q' at *
 obtain⟨T,hT⟩:∃T,(v8 x.t).toArray=T:=⟨_,rfl⟩
 obtain⟨T',hT'⟩:∃T,(v8 y.t).toArray=T:=⟨_,rfl⟩
 rw[hT]at p1 eT
 rw[hT']at q1 eT
 clear hT hT'
 obtain⟨D,hD⟩:∃D,d+1+1=D:=⟨_,rfl⟩
 have eT:(Op.equalIn (d+1+1) 23 (.agg T) (.agg T')).run prog w=.ok (x.t==y.t) w:=eT
 rw[hD]at eT
 have n0 : ¬ ("Node" = "_") := by decide
 have n1 : ¬ ("Tag" = "_") := by decide
 simp only[Op.eqFields,a0,b0,d0,a1,b1,d1,ne_eq,n0,n1,not_false_eq_true,if_true]
 rw[show d+2=d+1+1 from rfl,hD]
 rw[hD]at eI
 clear hD
 simp only[Sem.run_bind,p0,q0,Result.andThen_ok,eI]
 cases (x.n==y.n)
 ·simp only[Bool.not_false,if_true,Sem.run_pure,Bool.false_and]
 ·simp only[Bool.not_true,Bool.false_eq_true,if_false,Sem.run_bind,p1,q1,Result.andThen_ok,eT,Bool.true_and]
  cases (x.t==y.t)
  ·simp only[Bool.not_false,if_true,Sem.run_pure]
  ·simp only[Bool.not_true,Bool.false_eq_true,if_false,Sem.run_pure]
theorem Sg.eq10 (x y:Sg) (hx:x.ok) (hy:y.ok) (w:World):(Op.equalIn 10000 133 (.agg x.cells.toArray) (.agg y.cells.toArray)).run prog w=.ok (Sg.B x y) w:=Sg.eqIn x y hx.tl hy.tl 9997 w
theorem fldEv : (prog.fieldsOf 25).toList.map (fun f => (f.name, f.type, f.offset)) = [("From", 3, 0), ("Body", 9, 1), ("Tag", 23, 2)] := by kernel_rfl
theorem undEv:prog.underlying 25=some (.struct (prog.fieldsOf 25)):=by kernel_rfl
theorem sihEv:prog.stoodInHeld 25=false:=by kernel_rfl
def Ev.B (x y:Ev):Bool:=(x.n==y.n)&&((x.s.toList==y.s.toList)&&((x.t==y.t)))
theorem Ev.B_iff {x y:Ev}:Ev.B x y=true↔x=y:=by
 cases x
 cases y
 simp[Ev.B,zef]
theorem Ev.eqIn (x y:Ev) (hx:x.t.length=16) (hy:y.t.length=16) (d:Nat) (w:World):
  (Op.equalIn (d+2+1) 25 (.agg x.cells.toArray) (.agg y.cells.toArray)).run prog w=.ok (Ev.B x y) w:=by
 rw[run_equalIn_struct w (d+2) 25 _ _ undEv sihEv]
 have hf:=fldEv
 generalize (prog.fieldsOf 25).toList=fs at hf
 obtain⟨f0,f1,f2,rfl⟩:∃f0 f1 f2,fs=[f0,f1,f2]:=by
  rcases fs with _|⟨f0,_|⟨f1,_|⟨f2,_|⟨f3,fs⟩⟩⟩⟩<;>simp at hf
  exact⟨f0,f1,f2,rfl⟩
 simp only[List.map_cons,List.map_nil,List.cons.injEq,Prod.mk.injEq,and_true]at hf
 obtain⟨⟨a0,b0,d0⟩,⟨a1,b1,d1⟩,⟨a2,b2,d2⟩⟩:=hf
 have p0:=zaq w x.cells 0 x.n rfl
 have q0:=zaq w y.cells 0 y.n rfl
 have p1:=zbE w x.cells 1 x.s rfl
 have q1:=zbE w y.cells 1 y.s rfl
 have p2:=zbb w x.cells 2 x.t (by show List.take 16 (v8 x.t)=v8 x.t;rw[List.take_of_length_le (by rw[v8_length,hx];exact Nat.le_refl _)])
 have q2:=zbb w y.cells 2 y.t (by show List.take 16 (v8 y.t)=v8 y.t;rw[List.take_of_length_le (by rw[v8_length,hy];exact Nat.le_refl _)])
 have eI:=fun a b=>run_equalIn_int (P:=prog) w (d+1) 3 .i64 .i64 a b underlying3
 have eS:=fun a b=>run_equalIn_string (P:=prog) w (d+1) 9 a b underlying9
 have eT:=zbl (P:=prog) w d 23 5 16 underlying23 underlying5 isz8 x.t y.t hx hy
 unfold Ev.B
 generalize x.cells.toArray=q at *
 generalize y.cells.toArray=q' at *
 obtain⟨T,hT⟩:∃T,(v8 x.t).toArray=T:=⟨_,rfl⟩
 obtain⟨T',hT'⟩:∃T,(v8 y.t).toArray=T:=⟨_,rfl⟩
 rw[hT]at p2 eT
 rw[hT']at q2 eT
 clear hT hT'
 obtain⟨D,hD⟩:∃D,d+1+1=D:=⟨_,rfl⟩
 have eT:(Op.equalIn (d+1+1) 23 (.agg T) (.agg T')).run prog w=.ok (x.t==y.t) w:=eT
 rw[hD]at eT
 have n0 : ¬ ("From" = "_") := by decide
 have n1 : ¬ ("Body" = "_") := by decide
 have n2 : ¬ ("Tag" = "_") := by decide
 simp only[Op.eqFields,a0,b0,d0,a1,b1,d1,a2,b2,d2,ne_eq,n0,n1,n2,not_false_eq_true,if_true]
 rw[show d+2=d+1+1 from rfl,hD]
 rw[hD]at eI
 simp only[hD]at eS
 clear hD
 simp only[Sem.run_bind,p0,q0,Result.andThen_ok,eI]
 cases (x.n==y.n)
 ·simp only[Bool.not_false,if_true,Sem.run_pure,Bool.false_and]
 ·simp only[Bool.not_true,Bool.false_eq_true,if_false,Sem.run_bind,p1,q1,Result.andThen_ok,eS,Bool.true_and]
  cases (x.s.toList==y.s.toList)
  ·simp only[Bool.not_false,if_true,Sem.run_pure,Bool.false_and]
  ·simp only[Bool.not_true,Bool.false_eq_true,if_false,Sem.run_bind,p2,q2,Result.andThen_ok,eT,Bool.true_and]
   cases (x.t==y.t)
   ·simp only[Bool.not_false,if_true,Sem.run_pure]
   ·simp only[Bool.not_true,Bool.false_eq_true,if_false,Sem.run_pure]
theorem Ev.eq10 (x y:Ev) (hx:x.ok) (hy:y.ok) (w:World):(Op.equalIn 10000 25 (.agg x.cells.toArray) (.agg y.cells.toArray)).run prog w=.ok (Ev.B x y) w:=Ev.eqIn x y hx.tl hy.tl 9997 w
theorem fldRq : (prog.fieldsOf 81).toList.map (fun f => (f.name, f.type, f.offset)) = [("Client", 3, 0), ("Num", 3, 1), ("Data", 9, 2), ("Tag", 23, 3)] := by kernel_rfl
theorem undRq:prog.underlying 81=some (.struct (prog.fieldsOf 81)):=by kernel_rfl
theorem sihRq:prog.stoodInHeld 81=false:=by kernel_rfl
def Rq.B (x y:Rq):Bool:=(x.c==y.c)&&((x.n==y.n)&&((x.s.toList==y.s.toList)&&((x.t==y.t))))
theorem Rq.B_iff {x y:Rq}:Rq.B x y=true↔x=y:=by
 cases x
 cases y
 simp[Rq.B,zef]
theorem Rq.eqIn (x y:Rq) (hx:x.t.length=16) (hy:y.t.length=16) (d:Nat) (w:World):
  (Op.equalIn (d+2+1) 81 (.agg x.cells.toArray) (.agg y.cells.toArray)).run prog w=.ok (Rq.B x y) w:=by
 rw[run_equalIn_struct w (d+2) 81 _ _ undRq sihRq]
 have hf:=fldRq
 generalize (prog.fieldsOf 81).toList=fs at hf
 obtain⟨f0,f1,f2,f3,rfl⟩:∃f0 f1 f2 f3,fs=[f0,f1,f2,f3]:=by
  rcases fs with _|⟨f0,_|⟨f1,_|⟨f2,_|⟨f3,_|⟨f4,fs⟩⟩⟩⟩⟩<;>simp at hf
  exact⟨f0,f1,f2,f3,rfl⟩
 simp only[List.map_cons,List.map_nil,List.cons.injEq,Prod.mk.injEq,and_true]at hf
 obtain⟨⟨a0,b0,d0⟩,⟨a1,b1,d1⟩,⟨a2,b2,d2⟩,⟨a3,b3,d3⟩⟩:=hf
 have p0:=zaq w x.cells 0 x.c rfl
 have q0:=zaq w y.cells 0 y.c rfl
 have p1:=zaq w x.cells 1 x.n rfl
 have q1:=zaq w y.cells 1 y.n rfl
 have p2:=zbE w x.cells 2 x.s rfl
 have q2:=zbE w y.cells 2 y.s rfl
 have p3:=zbb w x.cells 3 x.t (by show List.take 16 (v8 x.t)=v8 x.t;rw[List.take_of_length_le (by rw[v8_length,hx];exact Nat.le_refl _)])
 have q3:=zbb w y.cells 3 y.t (by show List.take 16 (v8 y.t)=v8 y.t;rw[List.take_of_length_le (by rw[v8_length,hy];exact Nat.le_refl _)])
 have eI:=fun a b=>run_equalIn_int (P:=prog) w (d+1) 3 .i64 .i64 a b underlying3
 have eS:=fun a b=>run_equalIn_string (P:=prog) w (d+1) 9 a b underlying9
 have eT:=zbl (P:=prog) w d 23 5 16 underlying23 underlying5 isz8 x.t y.t hx hy
 unfold Rq.B
 generalize x.cells.toArray=q at *
 generalize y.cells.toArray=q' at *
 obtain⟨T,hT⟩:∃T,(v8 x.t).toArray=T:=⟨_,rfl⟩
 obtain⟨T',hT'⟩:∃T,(v8 y.t).toArray=T:=⟨_,rfl⟩
 rw[hT]at p3 eT
 rw[hT']at q3 eT
 clear hT hT'
 obtain⟨D,hD⟩:∃D,d+1+1=D:=⟨_,rfl⟩
 have eT:(Op.equalIn (d+1+1) 23 (.agg T) (.agg T')).run prog w=.ok (x.t==y.t) w:=eT
 rw[hD]at eT
 have n0 : ¬ ("Client" = "_") := by decide
 have n1 : ¬ ("Num" = "_") := by decide
 have n2 : ¬ ("Data" = "_") := by decide
 have n3 : ¬ ("Tag" = "_") := by decide
 simp only[Op.eqFields,a0,b0,d0,a1,b1,d1,a2,b2,d2,a3,b3,d3,ne_eq,n0,n1,n2,n3,not_false_eq_true,if_true]
 rw[show d+2=d+1+1 from rfl,hD]
 rw[hD]at eI
 simp only[hD]at eS
 clear hD
 simp only[Sem.run_bind,p0,q0,Result.andThen_ok,eI]
 cases (x.c==y.c)
 ·simp only[Bool.not_false,if_true,Sem.run_pure,Bool.false_and]
 ·simp only[Bool.not_true,Bool.false_eq_true,if_false,Sem.run_bind,p1,q1,Result.andThen_ok,eI,Bool.true_and]
  cases (x.n==y.n)
  ·simp only[Bool.not_false,if_true,Sem.run_pure,Bool.false_and]
  ·simp only[Bool.not_true,Bool.false_eq_true,if_false,Sem.run_bind,p2,q2,Result.andThen_ok,eS,Bool.true_and]
   cases (x.s.toList==y.s.toList)
   ·simp only[Bool.not_false,if_true,Sem.run_pure,Bool.false_and]
   ·simp only[Bool.not_true,Bool.false_eq_true,if_false,Sem.run_bind,p3,q3,Result.andThen_ok,eT,Bool.true_and]
    cases (x.t==y.t)
    ·simp only[Bool.not_false,if_true,Sem.run_pure]
    ·simp only[Bool.not_true,Bool.false_eq_true,if_false,Sem.run_pure]
theorem Rq.eq10 (x y:Rq) (hx:x.ok) (hy:y.ok) (w:World):(Op.equalIn 10000 81 (.agg x.cells.toArray) (.agg y.cells.toArray)).run prog w=.ok (Rq.B x y) w:=Rq.eqIn x y hx.tl hy.tl 9997 w
def sameL {α:Type} (B:α→α→Bool):List α→List α→Bool
  |[],[]=>true
  |x::xs,y::ys=>B x y&&sameL B xs ys
  |_,_=>false
theorem za8 {α:Type} {B:α→α→Bool} (h:∀x y,B x y=true↔x=y):∀xs ys:List α,sameL B xs ys=true↔xs=ys
  |[],[]=>by simp[sameL]
  |x::xs,y::ys=>by simp[sameL,h,za8 h xs ys]
  |[],_::_=>by simp[sameL]
  |_::_,[]=>by simp[sameL]
theorem zj5 (a:Option Addr) (cap:Nat) (rs:List Sg) (a':Option Addr) (cap':Nat) (rs':List Sg) (w:World) (h:RowsAt SgE w a rs) (h':RowsAt SgE w a' rs'):
  Calls prog 134 #[.slice a rs.length cap,.slice a' rs'.length cap'] w fun e w'=>((e=.returned (.bool true)∧rs=rs')∨(e=.returned (.bool false)∧¬rs=rs'))∧Below w.heap.size w w':=by
 have hml:=h.1
 have hml':=h'.1
 unfold maxLen at hml hml'
 have hall:=h.2.1
 have hall':=h'.2.1
 by_cases hlen:rs.length=rs'.length
 rotate_left
 ·have e0:((rs.length:Int)==rs'.length)=false:=by simp;omega
  have HL:=hide hlen
  clear hlen
  go_enter func134,ntmps134
  go_wp2
  go_ret
  exact⟨.inr ⟨rfl,fun hh=>HL.out (by rw[hh])⟩,Below.refl _ _⟩
 ·have e0:((rs.length:Int)==rs'.length)=true:=by simp;omega
  have HL:=hide hlen
  clear hlen
  go_enter func134,ntmps134
  go_wp2
  go_loopw [13] (fun iv wr=>∃k:Nat,k≤rs.length∧iv=.int .i64 (k:Int)∧Hid (∀j (hj:j<rs.length) (hj':j<rs'.length),j<k→rs[j]=rs'[j])∧Below w.heap.size w wr) (fun iv _=>rs.length - (intOf iv).toNat)
  case atStart=>exact⟨0,by omega,rfl,hide (fun j _ _ hj=>absurd hj (by omega)),Below.refl _ _⟩
  case round=>
   clear e0
   obtain⟨k,hk,rfl,HM,hB⟩:=hrel
   by_cases hlt:k<rs.length
   ·have k1:(k:Int)<rs.length:=by omega
    have hlt':k<rs'.length:=by have:=HL.out;omega
    have k1':(k:Int)<rs'.length:=by omega
    obtain⟨b,off,rfl,hb,hre⟩:=(h.below hB).elem k hlt
    have hre:wr.rangeAt b (off+k*17) rs[k].cells:=hre
    obtain⟨b',off',rfl,hb',hre'⟩:=(h'.below hB).elem k hlt'
    have hre':wr.rangeAt b' (off'+k*17) rs'[k].cells:=hre'
    obtain⟨r,hr⟩:∃r,Hid (rs[k]=r):=⟨_,hide rfl⟩
    obtain⟨r',hr'⟩:∃r',Hid (rs'[k]=r'):=⟨_,hide rfl⟩
    have hok:r.ok:=by rw[←hr.out];exact hall _ (List.getElem_mem hlt)
    have hok':r'.ok:=by rw[←hr'.out];exact hall' _ (List.getElem_mem hlt')
    rw[hr.out]at hre
    rw[hr'.out]at hre'
    have HM':Hid (r=r'→∀j (hj:j<rs.length) (hj':j<rs'.length),j<k+1→rs[j]=rs'[j]):=hide (fun hp j hj hj' hjk=>by
     by_cases e:j=k
     ·subst e;rw[hr.out,hr'.out];exact hp
     ·exact HM.out j hj hj' (by omega))
    have HN':Hid (r≠r'→rs≠rs'):=hide (fun hp he=>by
     apply hp
     rw[←hr.out,←hr'.out]
     subst he
     rfl)
    clear hr hr' HM
    have hiu:(prog.info? 133).map (·.size)=some r.cells.length:=by rw[show r.cells.length=17 from SgE.len r hok];kernel_rfl
    have hiu':(prog.info? 133).map (·.size)=some r'.cells.length:=by rw[show r'.cells.length=17 from SgE.len r' hok'];kernel_rfl
    have hne:=fun w0=>Sg.eq10 r r' hok hok' w0
    obtain⟨u,hu⟩:∃u,Hid (r.cells=u):=⟨_,hide rfl⟩
    obtain⟨u',hu'⟩:∃u',Hid (r'.cells=u'):=⟨_,hide rfl⟩
    rw[hu.out]at hre hiu
    rw[hu'.out]at hre' hiu'
    simp only[hu.out,hu'.out]at hne
    clear hu hu' hok hok'
    by_cases hrr:r=r'
    ·have e1:Sg.B r r'=true:=Sg.B_iff.2 hrr
     rw[e1]at hne
     have HR:=hide hrr
     clear hrr e1
     go_upto_region 6 with fail
     obtain⟨w5,hw5⟩:∃w5,wr.drew=w5:=⟨_,rfl⟩
     have hB5:Below w.heap.size w w5:=by rw[←hw5];exact hB.drew
     have hre5:w5.rangeAt b (off+k*17) u:=by rw[←hw5];exact(World.rangeAt_drew _ _ _ _).2 hre
     have hre5':w5.rangeAt b' (off'+k*17) u':=by rw[←hw5];exact(World.rangeAt_drew _ _ _ _).2 hre'
     have hb5:b<w5.heap.size:=by rw[←hw5];exact hb
     have hb5':b'<w5.heap.size:=by rw[←hw5];exact hb'
     refine zG (S:=(Below w5.heap.size w5)) 9 rfl (by kernel_rfl) ?_
     rw[hw5]
     clear hw5 hB hre hre' hb hb'
     have hS:(Below w5.heap.size w5) w5:=Below.refl _ _
     refine hs_t 0 16 (?_) rfl (by kernel_rfl) (by kernel_rfl) (by kernel_rfl) (by rfl) ?_ hS rfl ?_
     rotate_left
     ·intro w' hw
      go_simp
      try with_reducible rfl
     simp only[nz]
     refine hs_t 1 17 (?_) rfl (by kernel_rfl) (by kernel_rfl) (by kernel_rfl) (by rfl) ?_ hS rfl ?_
     rotate_left
     ·intro w' hw
      go_simp
      try with_reducible rfl
     simp only[nz]
     refine hs_t 2 18 (?_) rfl (by kernel_rfl) (by kernel_rfl) (by kernel_rfl) (by rfl) ?_ hS rfl ?_
     rotate_left
     ·intro w' hw
      go_simp
      try with_reducible rfl
     simp only[nz]
     refine hs_t 3 19 (.agg u.toArray) rfl (by kernel_rfl) (by kernel_rfl) (by kernel_rfl) (by rfl) (fun w' hw=>zX rfl rfl (run_loadVar_mid (P:=prog) w' b (off+k*17) 133 u _ (zd hre5 hw hb5) underlying133 rfl hiu)) hS rfl ?_
     simp only[nz]
     refine hs_t 4 20 (?_) rfl (by kernel_rfl) (by kernel_rfl) (by kernel_rfl) (by rfl) ?_ hS rfl ?_
     rotate_left
     ·intro w' hw
      go_simp
      try with_reducible rfl
     simp only[nz]
     refine hs_t 5 21 (?_) rfl (by kernel_rfl) (by kernel_rfl) (by kernel_rfl) (by rfl) ?_ hS rfl ?_
     rotate_left
     ·intro w' hw
      go_simp
      try with_reducible rfl
     simp only[nz]
     refine hs_t 6 22 (?_) rfl (by kernel_rfl) (by kernel_rfl) (by kernel_rfl) (by rfl) ?_ hS rfl ?_
     rotate_left
     ·intro w' hw
      go_simp
      try with_reducible rfl
     simp only[nz]
     refine hs_t 7 23 (.agg u'.toArray) rfl (by kernel_rfl) (by kernel_rfl) (by kernel_rfl) (by rfl) (fun w' hw=>zX rfl rfl (run_loadVar_mid (P:=prog) w' b' (off'+k*17) 133 u' _ (zd hre5' hw hb5') underlying133 rfl hiu')) hS rfl ?_
     simp only[nz]
     refine hs_t 8 24 (.bool false) rfl (by kernel_rfl) (by kernel_rfl) (by kernel_rfl) (by rfl) (fun w' hw=>by have hc:=hne w';go_simp) hS rfl ?_
     simp only[nz]
     refine zE (by kernel_rfl) ?_
     go_wp2
     go_roundw
     case rel=>exact⟨k+1,by omega,by go_num,hide (HM'.out HR.out),hB5⟩
     case measure=>simp[intOf];omega
    ·have e1:Sg.B r r'=false:=by
      cases hx:Sg.B r r'
      ·rfl
      ·exact absurd (Sg.B_iff.1 hx) hrr
     rw[e1]at hne
     have HR:=hide hrr
     clear hrr e1
     go_upto_region 6 with fail
     obtain⟨w5,hw5⟩:∃w5,wr.drew=w5:=⟨_,rfl⟩
     have hB5:Below w.heap.size w w5:=by rw[←hw5];exact hB.drew
     have hre5:w5.rangeAt b (off+k*17) u:=by rw[←hw5];exact(World.rangeAt_drew _ _ _ _).2 hre
     have hre5':w5.rangeAt b' (off'+k*17) u':=by rw[←hw5];exact(World.rangeAt_drew _ _ _ _).2 hre'
     have hb5:b<w5.heap.size:=by rw[←hw5];exact hb
     have hb5':b'<w5.heap.size:=by rw[←hw5];exact hb'
     refine zG (S:=(Below w5.heap.size w5)) 9 rfl (by kernel_rfl) ?_
     rw[hw5]
     clear hw5 hB hre hre' hb hb'
     have hS:(Below w5.heap.size w5) w5:=Below.refl _ _
     refine hs_t 0 16 (?_) rfl (by kernel_rfl) (by kernel_rfl) (by kernel_rfl) (by rfl) ?_ hS rfl ?_
     rotate_left
     ·intro w' hw
      go_simp
      try with_reducible rfl
     simp only[nz]
     refine hs_t 1 17 (?_) rfl (by kernel_rfl) (by kernel_rfl) (by kernel_rfl) (by rfl) ?_ hS rfl ?_
     rotate_left
     ·intro w' hw
      go_simp
      try with_reducible rfl
     simp only[nz]
     refine hs_t 2 18 (?_) rfl (by kernel_rfl) (by kernel_rfl) (by kernel_rfl) (by rfl) ?_ hS rfl ?_
     rotate_left
     ·intro w' hw
      go_simp
      try with_reducible rfl
     simp only[nz]
     refine hs_t 3 19 (.agg u.toArray) rfl (by kernel_rfl) (by kernel_rfl) (by kernel_rfl) (by rfl) (fun w' hw=>zX rfl rfl (run_loadVar_mid (P:=prog) w' b (off+k*17) 133 u _ (zd hre5 hw hb5) underlying133 rfl hiu)) hS rfl ?_
     simp only[nz]
     refine hs_t 4 20 (?_) rfl (by kernel_rfl) (by kernel_rfl) (by kernel_rfl) (by rfl) ?_ hS rfl ?_
     rotate_left
     ·intro w' hw
      go_simp
      try with_reducible rfl
     simp only[nz]
     refine hs_t 5 21 (?_) rfl (by kernel_rfl) (by kernel_rfl) (by kernel_rfl) (by rfl) ?_ hS rfl ?_
     rotate_left
     ·intro w' hw
      go_simp
      try with_reducible rfl
     simp only[nz]
     refine hs_t 6 22 (?_) rfl (by kernel_rfl) (by kernel_rfl) (by kernel_rfl) (by rfl) ?_ hS rfl ?_
     rotate_left
     ·intro w' hw
      go_simp
      try with_reducible rfl
     simp only[nz]
     refine hs_t 7 23 (.agg u'.toArray) rfl (by kernel_rfl) (by kernel_rfl) (by kernel_rfl) (by rfl) (fun w' hw=>zX rfl rfl (run_loadVar_mid (P:=prog) w' b' (off'+k*17) 133 u' _ (zd hre5' hw hb5') underlying133 rfl hiu')) hS rfl ?_
     simp only[nz]
     refine hs_t 8 24 (.bool true) rfl (by kernel_rfl) (by kernel_rfl) (by kernel_rfl) (by rfl) (fun w' hw=>by have hc:=hne w';go_simp) hS rfl ?_
     simp only[nz]
     refine zE (by kernel_rfl) ?_
     go_wp2
     go_ret
     exact⟨.inr ⟨rfl,fun hh=>HN'.out HR.out hh⟩,hB5⟩
   ·have k1:¬(k:Int)<rs.length:=by omega
    have HE:Hid (rs=rs'):=hide (List.ext_getElem HL.out (fun j hj hj'=>HM.out j hj hj' (by omega)))
    clear HM
    go_wp2
    go_ret
    exact⟨.inl ⟨rfl,HE.out⟩,hB⟩
theorem zfP (a:Option Addr) (cap:Nat) (rs:List Sg) (a':Option Addr) (cap':Nat) (rs':List Sg) (w:World) (h:RowsAt SgE w a rs) (h':RowsAt SgE w a' rs'):
  Calls prog 134 #[.slice a rs.length cap,.slice a' rs'.length cap'] w fun e w'=>e=.returned (.bool (sameL Sg.B rs rs'))∧Below w.heap.size w w':=by
 refine(zj5 a cap rs a' cap' rs' w h h').mono ?_
 rintro e w1 ⟨hc,hb⟩
 have I:=za8 (fun x y=>Sg.B_iff (x:=x) (y:=y)) rs rs'
 refine⟨?_,hb⟩
 rcases hc with⟨rfl,he⟩|⟨rfl,he⟩
 ·rw[I.2 he]
 ·cases hq:sameL Sg.B rs rs'
  ·rfl
  ·exact absurd (I.1 hq) he
theorem zj9 (a:Option Addr) (cap:Nat) (rs:List Ev) (a':Option Addr) (cap':Nat) (rs':List Ev) (w:World) (h:RowsAt EvE w a rs) (h':RowsAt EvE w a' rs'):
  Calls prog 132 #[.slice a rs.length cap,.slice a' rs'.length cap'] w fun e w'=>((e=.returned (.bool true)∧rs=rs')∨(e=.returned (.bool false)∧¬rs=rs'))∧Below w.heap.size w w':=by
 have hml:=h.1
 have hml':=h'.1
 unfold maxLen at hml hml'
 have hall:=h.2.1
 have hall':=h'.2.1
 by_cases hlen:rs.length=rs'.length
 rotate_left
 ·have e0:((rs.length:Int)==rs'.length)=false:=by simp;omega
  have HL:=hide hlen
  clear hlen
  go_enter func132,ntmps132
  go_wp2
  go_ret
  exact⟨.inr ⟨rfl,fun hh=>HL.out (by rw[hh])⟩,Below.refl _ _⟩
 ·have e0:((rs.length:Int)==rs'.length)=true:=by simp;omega
  have HL:=hide hlen
  clear hlen
  go_enter func132,ntmps132
  go_wp2
  go_loopw [13] (fun iv wr=>∃k:Nat,k≤rs.length∧iv=.int .i64 (k:Int)∧Hid (∀j (hj:j<rs.length) (hj':j<rs'.length),j<k→rs[j]=rs'[j])∧Below w.heap.size w wr) (fun iv _=>rs.length - (intOf iv).toNat)
  case atStart=>exact⟨0,by omega,rfl,hide (fun j _ _ hj=>absurd hj (by omega)),Below.refl _ _⟩
  case round=>
   clear e0
   obtain⟨k,hk,rfl,HM,hB⟩:=hrel
   by_cases hlt:k<rs.length
   ·have k1:(k:Int)<rs.length:=by omega
    have hlt':k<rs'.length:=by have:=HL.out;omega
    have k1':(k:Int)<rs'.length:=by omega
    obtain⟨b,off,rfl,hb,hre⟩:=(h.below hB).elem k hlt
    have hre:wr.rangeAt b (off+k*18) rs[k].cells:=hre
    obtain⟨b',off',rfl,hb',hre'⟩:=(h'.below hB).elem k hlt'
    have hre':wr.rangeAt b' (off'+k*18) rs'[k].cells:=hre'
    obtain⟨r,hr⟩:∃r,Hid (rs[k]=r):=⟨_,hide rfl⟩
    obtain⟨r',hr'⟩:∃r',Hid (rs'[k]=r'):=⟨_,hide rfl⟩
    have hok:r.ok:=by rw[←hr.out];exact hall _ (List.getElem_mem hlt)
    have hok':r'.ok:=by rw[←hr'.out];exact hall' _ (List.getElem_mem hlt')
    rw[hr.out]at hre
    rw[hr'.out]at hre'
    have HM':Hid (r=r'→∀j (hj:j<rs.length) (hj':j<rs'.length),j<k+1→rs[j]=rs'[j]):=hide (fun hp j hj hj' hjk=>by
     by_cases e:j=k
     ·subst e;rw[hr.out,hr'.out];exact hp
     ·exact HM.out j hj hj' (by omega))
    have HN':Hid (r≠r'→rs≠rs'):=hide (fun hp he=>by
     apply hp
     rw[←hr.out,←hr'.out]
     subst he
     rfl)
    clear hr hr' HM
    have hiu:(prog.info? 25).map (·.size)=some r.cells.length:=by rw[show r.cells.length=18 from EvE.len r hok];kernel_rfl
    have hiu':(prog.info? 25).map (·.size)=some r'.cells.length:=by rw[show r'.cells.length=18 from EvE.len r' hok'];kernel_rfl
    have hne:=fun w0=>Ev.eq10 r r' hok hok' w0
    obtain⟨u,hu⟩:∃u,Hid (r.cells=u):=⟨_,hide rfl⟩
    obtain⟨u',hu'⟩:∃u',Hid (r'.cells=u'):=⟨_,hide rfl⟩
    rw[hu.out]at hre hiu
    rw[hu'.out]at hre' hiu'
    simp only[hu.out,hu'.out]at hne
    clear hu hu' hok hok'
    by_cases hrr:r=r'
    ·have e1:Ev.B r r'=true:=Ev.B_iff.2 hrr
     rw[e1]at hne
     have HR:=hide hrr
     clear hrr e1
     go_upto_region 6 with fail
     obtain⟨w5,hw5⟩:∃w5,wr.drew=w5:=⟨_,rfl⟩
     have hB5:Below w.heap.size w w5:=by rw[←hw5];exact hB.drew
     have hre5:w5.rangeAt b (off+k*18) u:=by rw[←hw5];exact(World.rangeAt_drew _ _ _ _).2 hre
     have hre5':w5.rangeAt b' (off'+k*18) u':=by rw[←hw5];exact(World.rangeAt_drew _ _ _ _).2 hre'
     have hb5:b<w5.heap.size:=by rw[←hw5];exact hb
     have hb5':b'<w5.heap.size:=by rw[←hw5];exact hb'
     refine zG (S:=(Below w5.heap.size w5)) 9 rfl (by kernel_rfl) ?_
     rw[hw5]
     clear hw5 hB hre hre' hb hb'
     have hS:(Below w5.heap.size w5) w5:=Below.refl _ _
     refine hs_t 0 16 (?_) rfl (by kernel_rfl) (by kernel_rfl) (by kernel_rfl) (by rfl) ?_ hS rfl ?_
     rotate_left
     ·intro w' hw
      go_simp
      try with_reducible rfl
     simp only[nz]
     refine hs_t 1 17 (?_) rfl (by kernel_rfl) (by kernel_rfl) (by kernel_rfl) (by rfl) ?_ hS rfl ?_
     rotate_left
     ·intro w' hw
      go_simp
      try with_reducible rfl
     simp only[nz]
     refine hs_t 2 18 (?_) rfl (by kernel_rfl) (by kernel_rfl) (by kernel_rfl) (by rfl) ?_ hS rfl ?_
     rotate_left
     ·intro w' hw
      go_simp
      try with_reducible rfl
     simp only[nz]
     refine hs_t 3 19 (.agg u.toArray) rfl (by kernel_rfl) (by kernel_rfl) (by kernel_rfl) (by rfl) (fun w' hw=>zX rfl rfl (run_loadVar_mid (P:=prog) w' b (off+k*18) 25 u _ (zd hre5 hw hb5) underlying25 rfl hiu)) hS rfl ?_
     simp only[nz]
     refine hs_t 4 20 (?_) rfl (by kernel_rfl) (by kernel_rfl) (by kernel_rfl) (by rfl) ?_ hS rfl ?_
     rotate_left
     ·intro w' hw
      go_simp
      try with_reducible rfl
     simp only[nz]
     refine hs_t 5 21 (?_) rfl (by kernel_rfl) (by kernel_rfl) (by kernel_rfl) (by rfl) ?_ hS rfl ?_
     rotate_left
     ·intro w' hw
      go_simp
      try with_reducible rfl
     simp only[nz]
     refine hs_t 6 22 (?_) rfl (by kernel_rfl) (by kernel_rfl) (by kernel_rfl) (by rfl) ?_ hS rfl ?_
     rotate_left
     ·intro w' hw
      go_simp
      try with_reducible rfl
     simp only[nz]
     refine hs_t 7 23 (.agg u'.toArray) rfl (by kernel_rfl) (by kernel_rfl) (by kernel_rfl) (by rfl) (fun w' hw=>zX rfl rfl (run_loadVar_mid (P:=prog) w' b' (off'+k*18) 25 u' _ (zd hre5' hw hb5') underlying25 rfl hiu')) hS rfl ?_
     simp only[nz]
     refine hs_t 8 24 (.bool false) rfl (by kernel_rfl) (by kernel_rfl) (by kernel_rfl) (by rfl) (fun w' hw=>by have hc:=hne w';go_simp) hS rfl ?_
     simp only[nz]
     refine zE (by kernel_rfl) ?_
     go_wp2
     go_roundw
     case rel=>exact⟨k+1,by omega,by go_num,hide (HM'.out HR.out),hB5⟩
     case measure=>simp[intOf];omega
    ·have e1:Ev.B r r'=false:=by
      cases hx:Ev.B r r'
      ·rfl
      ·exact absurd (Ev.B_iff.1 hx) hrr
     rw[e1]at hne
     have HR:=hide hrr
     clear hrr e1
     go_upto_region 6 with fail
     obtain⟨w5,hw5⟩:∃w5,wr.drew=w5:=⟨_,rfl⟩
     have hB5:Below w.heap.size w w5:=by rw[←hw5];exact hB.drew
     have hre5:w5.rangeAt b (off+k*18) u:=by rw[←hw5];exact(World.rangeAt_drew _ _ _ _).2 hre
     have hre5':w5.rangeAt b' (off'+k*18) u':=by rw[←hw5];exact(World.rangeAt_drew _ _ _ _).2 hre'
     have hb5:b<w5.heap.size:=by rw[←hw5];exact hb
     have hb5':b'<w5.heap.size:=by rw[←hw5];exact hb'
     refine zG (S:=(Below w5.heap.size w5)) 9 rfl (by kernel_rfl) ?_
     rw[hw5]
     clear hw5 hB hre hre' hb hb'
     have hS:(Below w5.heap.size w5) w5:=Below.refl _ _
     refine hs_t 0 16 (?_) rfl (by kernel_rfl) (by kernel_rfl) (by kernel_rfl) (by rfl) ?_ hS rfl ?_
     rotate_left
     ·intro w' hw
      go_simp
      try with_reducible rfl
     simp only[nz]
     refine hs_t 1 17 (?_) rfl (by kernel_rfl) (by kernel_rfl) (by kernel_rfl) (by rfl) ?_ hS rfl ?_
     rotate_left
     ·intro w' hw
      go_simp
      try with_reducible rfl
     simp only[nz]
     refine hs_t 2 18 (?_) rfl (by kernel_rfl) (by kernel_rfl) (by kernel_rfl) (by rfl) ?_ hS rfl ?_
     rotate_left
     ·intro w' hw
      go_simp
      try with_reducible rfl
     simp only[nz]
     refine hs_t 3 19 (.agg u.toArray) rfl (by kernel_rfl) (by kernel_rfl) (by kernel_rfl) (by rfl) (fun w' hw=>zX rfl rfl (run_loadVar_mid (P:=prog) w' b (off+k*18) 25 u _ (zd hre5 hw hb5) underlying25 rfl hiu)) hS rfl ?_
     simp only[nz]
     refine hs_t 4 20 (?_) rfl (by kernel_rfl) (by kernel_rfl) (by kernel_rfl) (by rfl) ?_ hS rfl ?_
     rotate_left
     ·intro w' hw
      go_simp
      try with_reducible rfl
     simp only[nz]
     refine hs_t 5 21 (?_) rfl (by kernel_rfl) (by kernel_rfl) (by kernel_rfl) (by rfl) ?_ hS rfl ?_
     rotate_left
     ·intro w' hw
      go_simp
      try with_reducible rfl
     simp only[nz]
     refine hs_t 6 22 (?_) rfl (by kernel_rfl) (by kernel_rfl) (by kernel_rfl) (by rfl) ?_ hS rfl ?_
     rotate_left
     ·intro w' hw
      go_simp
      try with_reducible rfl
     simp only[nz]
     refine hs_t 7 23 (.agg u'.toArray) rfl (by kernel_rfl) (by kernel_rfl) (by kernel_rfl) (by rfl) (fun w' hw=>zX rfl rfl (run_loadVar_mid (P:=prog) w' b' (off'+k*18) 25 u' _ (zd hre5' hw hb5') underlying25 rfl hiu')) hS rfl ?_
     simp only[nz]
     refine hs_t 8 24 (.bool true) rfl (by kernel_rfl) (by kernel_rfl) (by kernel_rfl) (by rfl) (fun w' hw=>by have hc:=hne w';go_simp) hS rfl ?_
     simp only[nz]
     refine zE (by kernel_rfl) ?_
     go_wp2
     go_ret
     exact⟨.inr ⟨rfl,fun hh=>HN'.out HR.out hh⟩,hB5⟩
   ·have k1:¬(k:Int)<rs.length:=by omega
    have HE:Hid (rs=rs'):=hide (List.ext_getElem HL.out (fun j hj hj'=>HM.out j hj hj' (by omega)))
    clear HM
    go_wp2
    go_ret
    exact⟨.inl ⟨rfl,HE.out⟩,hB⟩
theorem zj8 (a:Option Addr) (cap:Nat) (rs:List Ev) (a':Option Addr) (cap':Nat) (rs':List Ev) (w:World) (h:RowsAt EvE w a rs) (h':RowsAt EvE w a' rs'):
  Calls prog 132 #[.slice a rs.length cap,.slice a' rs'.length cap'] w fun e w'=>e=.returned (.bool (sameL Ev.B rs rs'))∧Below w.heap.size w w':=by
 refine(zj9 a cap rs a' cap' rs' w h h').mono ?_
 rintro e w1 ⟨hc,hb⟩
 have I:=za8 (fun x y=>Ev.B_iff (x:=x) (y:=y)) rs rs'
 refine⟨?_,hb⟩
 rcases hc with⟨rfl,he⟩|⟨rfl,he⟩
 ·rw[I.2 he]
 ·cases hq:sameL Ev.B rs rs'
  ·rfl
  ·exact absurd (I.1 hq) he
theorem zj7 (a:Option Addr) (cap:Nat) (rs:List Rq) (a':Option Addr) (cap':Nat) (rs':List Rq) (w:World) (h:RowsAt RqE w a rs) (h':RowsAt RqE w a' rs'):
  Calls prog 162 #[.slice a rs.length cap,.slice a' rs'.length cap'] w fun e w'=>((e=.returned (.bool true)∧rs=rs')∨(e=.returned (.bool false)∧¬rs=rs'))∧Below w.heap.size w w':=by
 have hml:=h.1
 have hml':=h'.1
 unfold maxLen at hml hml'
 have hall:=h.2.1
 have hall':=h'.2.1
 by_cases hlen:rs.length=rs'.length
 rotate_left
 ·have e0:((rs.length:Int)==rs'.length)=false:=by simp;omega
  have HL:=hide hlen
  clear hlen
  go_enter func162,ntmps162
  go_wp2
  go_ret
  exact⟨.inr ⟨rfl,fun hh=>HL.out (by rw[hh])⟩,Below.refl _ _⟩
 ·have e0:((rs.length:Int)==rs'.length)=true:=by simp;omega
  have HL:=hide hlen
  clear hlen
  go_enter func162,ntmps162
  go_wp2
  go_loopw [13] (fun iv wr=>∃k:Nat,k≤rs.length∧iv=.int .i64 (k:Int)∧Hid (∀j (hj:j<rs.length) (hj':j<rs'.length),j<k→rs[j]=rs'[j])∧Below w.heap.size w wr) (fun iv _=>rs.length - (intOf iv).toNat)
  case atStart=>exact⟨0,by omega,rfl,hide (fun j _ _ hj=>absurd hj (by omega)),Below.refl _ _⟩
  case round=>
   clear e0
   obtain⟨k,hk,rfl,HM,hB⟩:=hrel
   by_cases hlt:k<rs.length
   ·have k1:(k:Int)<rs.length:=by omega
    have hlt':k<rs'.length:=by have:=HL.out;omega
    have k1':(k:Int)<rs'.length:=by omega
    obtain⟨b,off,rfl,hb,hre⟩:=(h.below hB).elem k hlt
    have hre:wr.rangeAt b (off+k*19) rs[k].cells:=hre
    obtain⟨b',off',rfl,hb',hre'⟩:=(h'.below hB).elem k hlt'
    have hre':wr.rangeAt b' (off'+k*19) rs'[k].cells:=hre'
    obtain⟨r,hr⟩:∃r,Hid (rs[k]=r):=⟨_,hide rfl⟩
    obtain⟨r',hr'⟩:∃r',Hid (rs'[k]=r'):=⟨_,hide rfl⟩
    have hok:r.ok:=by rw[←hr.out];exact hall _ (List.getElem_mem hlt)
    have hok':r'.ok:=by rw[←hr'.out];exact hall' _ (List.getElem_mem hlt')
    rw[hr.out]at hre
    rw[hr'.out]at hre'
    have HM':Hid (r=r'→∀j (hj:j<rs.length) (hj':j<rs'.length),j<k+1→rs[j]=rs'[j]):=hide (fun hp j hj hj' hjk=>by
     by_cases e:j=k
     ·subst e;rw[hr.out,hr'.out];exact hp
     ·exact HM.out j hj hj' (by omega))
    have HN':Hid (r≠r'→rs≠rs'):=hide (fun hp he=>by
     apply hp
     rw[←hr.out,←hr'.out]
     subst he
     rfl)
    clear hr hr' HM
    have hiu:(prog.info? 81).map (·.size)=some r.cells.length:=by rw[show r.cells.length=19 from RqE.len r hok];kernel_rfl
    have hiu':(prog.info? 81).map (·.size)=some r'.cells.length:=by rw[show r'.cells.length=19 from RqE.len r' hok'];kernel_rfl
    have hne:=fun w0=>Rq.eq10 r r' hok hok' w0
    obtain⟨u,hu⟩:∃u,Hid (r.cells=u):=⟨_,hide rfl⟩
    obtain⟨u',hu'⟩:∃u',Hid (r'.cells=u'):=⟨_,hide rfl⟩
    rw[hu.out]at hre hiu
    rw[hu'.out]at hre' hiu'
    simp only[hu.out,hu'.out]at hne
    clear hu hu' hok hok'
    by_cases hrr:r=r'
    ·have e1:Rq.B r r'=true:=Rq.B_iff.2 hrr
     rw[e1]at hne
     have HR:=hide hrr
     clear hrr e1
     go_upto_region 6 with fail
     obtain⟨w5,hw5⟩:∃w5,wr.drew=w5:=⟨_,rfl⟩
     have hB5:Below w.heap.size w w5:=by rw[←hw5];exact hB.drew
     have hre5:w5.rangeAt b (off+k*19) u:=by rw[←hw5];exact(World.rangeAt_drew _ _ _ _).2 hre
     have hre5':w5.rangeAt b' (off'+k*19) u':=by rw[←hw5];exact(World.rangeAt_drew _ _ _ _).2 hre'
     have hb5:b<w5.heap.size:=by rw[←hw5];exact hb
     have hb5':b'<w5.heap.size:=by rw[←hw5];exact hb'
     refine zG (S:=(Below w5.heap.size w5)) 9 rfl (by kernel_rfl) ?_
     rw[hw5]
     clear hw5 hB hre hre' hb hb'
     have hS:(Below w5.heap.size w5) w5:=Below.refl _ _
     refine hs_t 0 16 (?_) rfl (by kernel_rfl) (by kernel_rfl) (by kernel_rfl) (by rfl) ?_ hS rfl ?_
     rotate_left
     ·intro w' hw
      go_simp
      try with_reducible rfl
     simp only[nz]
     refine hs_t 1 17 (?_) rfl (by kernel_rfl) (by kernel_rfl) (by kernel_rfl) (by rfl) ?_ hS rfl ?_
     rotate_left
     ·intro w' hw
      go_simp
      try with_reducible rfl
     simp only[nz]
     refine hs_t 2 18 (?_) rfl (by kernel_rfl) (by kernel_rfl) (by kernel_rfl) (by rfl) ?_ hS rfl ?_
     rotate_left
     ·intro w' hw
      go_simp
      try with_reducible rfl
     simp only[nz]
     refine hs_t 3 19 (.agg u.toArray) rfl (by kernel_rfl) (by kernel_rfl) (by kernel_rfl) (by rfl) (fun w' hw=>zX rfl rfl (run_loadVar_mid (P:=prog) w' b (off+k*19) 81 u _ (zd hre5 hw hb5) underlying81 rfl hiu)) hS rfl ?_
     simp only[nz]
     refine hs_t 4 20 (?_) rfl (by kernel_rfl) (by kernel_rfl) (by kernel_rfl) (by rfl) ?_ hS rfl ?_
     rotate_left
     ·intro w' hw
      go_simp
      try with_reducible rfl
     simp only[nz]
     refine hs_t 5 21 (?_) rfl (by kernel_rfl) (by kernel_rfl) (by kernel_rfl) (by rfl) ?_ hS rfl ?_
     rotate_left
     ·intro w' hw
      go_simp
      try with_reducible rfl
     simp only[nz]
     refine hs_t 6 22 (?_) rfl (by kernel_rfl) (by kernel_rfl) (by kernel_rfl) (by rfl) ?_ hS rfl ?_
     rotate_left
     ·intro w' hw
      go_simp
      try with_reducible rfl
     simp only[nz]
     refine hs_t 7 23 (.agg u'.toArray) rfl (by kernel_rfl) (by kernel_rfl) (by kernel_rfl) (by rfl) (fun w' hw=>zX rfl rfl (run_loadVar_mid (P:=prog) w' b' (off'+k*19) 81 u' _ (zd hre5' hw hb5') underlying81 rfl hiu')) hS rfl ?_
     simp only[nz]
     refine hs_t 8 24 (.bool false) rfl (by kernel_rfl) (by kernel_rfl) (by kernel_rfl) (by rfl) (fun w' hw=>by have hc:=hne w';go_simp) hS rfl ?_
     simp only[nz]
     refine zE (by kernel_rfl) ?_
     go_wp2
     go_roundw
     case rel=>exact⟨k+1,by omega,by go_num,hide (HM'.out HR.out),hB5⟩
     case measure=>simp[intOf];omega
    ·have e1:Rq.B r r'=false:=by
      cases hx:Rq.B r r'
      ·rfl
      ·exact absurd (Rq.B_iff.1 hx) hrr
     rw[e1]at hne
     have HR:=hide hrr
     clear hrr e1
     go_upto_region 6 with fail
     obtain⟨w5,hw5⟩:∃w5,wr.drew=w5:=⟨_,rfl⟩
     have hB5:Below w.heap.size w w5:=by rw[←hw5];exact hB.drew
     have hre5:w5.rangeAt b (off+k*19) u:=by rw[←hw5];exact(World.rangeAt_drew _ _ _ _).2 hre
     have hre5':w5.rangeAt b' (off'+k*19) u':=by rw[←hw5];exact(World.rangeAt_drew _ _ _ _).2 hre'
     have hb5:b<w5.heap.size:=by rw[←hw5];exact hb
     have hb5':b'<w5.heap.size:=by rw[←hw5];exact hb'
     refine zG (S:=(Below w5.heap.size w5)) 9 rfl (by kernel_rfl) ?_
     rw[hw5]
     clear hw5 hB hre hre' hb hb'
     have hS:(Below w5.heap.size w5) w5:=Below.refl _ _
     refine hs_t 0 16 (?_) rfl (by kernel_rfl) (by kernel_rfl) (by kernel_rfl) (by rfl) ?_ hS rfl ?_
     rotate_left
     ·intro w' hw
      go_simp
      try with_reducible rfl
     simp only[nz]
     refine hs_t 1 17 (?_) rfl (by kernel_rfl) (by kernel_rfl) (by kernel_rfl) (by rfl) ?_ hS rfl ?_
     rotate_left
     ·intro w' hw
      go_simp
      try with_reducible rfl
     simp only[nz]
     refine hs_t 2 18 (?_) rfl (by kernel_rfl) (by kernel_rfl) (by kernel_rfl) (by rfl) ?_ hS rfl ?_
     rotate_left
     ·intro w' hw
      go_simp
      try with_reducible rfl
     simp only[nz]
     refine hs_t 3 19 (.agg u.toArray) rfl (by kernel_rfl) (by kernel_rfl) (by kernel_rfl) (by rfl) (fun w' hw=>zX rfl rfl (run_loadVar_mid (P:=prog) w' b (off+k*19) 81 u _ (zd hre5 hw hb5) underlying81 rfl hiu)) hS rfl ?_
     simp only[nz]
     refine hs_t 4 20 (?_) rfl (by kernel_rfl) (by kernel_rfl) (by kernel_rfl) (by rfl) ?_ hS rfl ?_
     rotate_left
     ·intro w' hw
      go_simp
      try with_reducible rfl
     simp only[nz]
     refine hs_t 5 21 (?_) rfl (by kernel_rfl) (by kernel_rfl) (by kernel_rfl) (by rfl) ?_ hS rfl ?_
     rotate_left
     ·intro w' hw
      go_simp
      try with_reducible rfl
     simp only[nz]
     refine hs_t 6 22 (?_) rfl (by kernel_rfl) (by kernel_rfl) (by kernel_rfl) (by rfl) ?_ hS rfl ?_
     rotate_left
     ·intro w' hw
      go_simp
      try with_reducible rfl
     simp only[nz]
     refine hs_t 7 23 (.agg u'.toArray) rfl (by kernel_rfl) (by kernel_rfl) (by kernel_rfl) (by rfl) (fun w' hw=>zX rfl rfl (run_loadVar_mid (P:=prog) w' b' (off'+k*19) 81 u' _ (zd hre5' hw hb5') underlying81 rfl hiu')) hS rfl ?_
     simp only[nz]
     refine hs_t 8 24 (.bool true) rfl (by kernel_rfl) (by kernel_rfl) (by kernel_rfl) (by rfl) (fun w' hw=>by have hc:=hne w';go_simp) hS rfl ?_
     simp only[nz]
     refine zE (by kernel_rfl) ?_
     go_wp2
     go_ret
     exact⟨.inr ⟨rfl,fun hh=>HN'.out HR.out hh⟩,hB5⟩
   ·have k1:¬(k:Int)<rs.length:=by omega
    have HE:Hid (rs=rs'):=hide (List.ext_getElem HL.out (fun j hj hj'=>HM.out j hj hj' (by omega)))
    clear HM
    go_wp2
    go_ret
    exact⟨.inl ⟨rfl,HE.out⟩,hB⟩
theorem zj6 (a:Option Addr) (cap:Nat) (rs:List Rq) (a':Option Addr) (cap':Nat) (rs':List Rq) (w:World) (h:RowsAt RqE w a rs) (h':RowsAt RqE w a' rs'):
  Calls prog 162 #[.slice a rs.length cap,.slice a' rs'.length cap'] w fun e w'=>e=.returned (.bool (sameL Rq.B rs rs'))∧Below w.heap.size w w':=by
 refine(zj7 a cap rs a' cap' rs' w h h').mono ?_
 rintro e w1 ⟨hc,hb⟩
 have I:=za8 (fun x y=>Rq.B_iff (x:=x) (y:=y)) rs rs'
 refine⟨?_,hb⟩
 rcases hc with⟨rfl,he⟩|⟨rfl,he⟩
 ·rw[I.2 he]
 ·cases hq:sameL Rq.B rs rs'
  ·rfl
  ·exact absurd (I.1 hq) he
theorem zcW (q q':List Value) (t:TypeId) (w:World):((w.alloc (.cells q.toArray t)).alloc (.cells q'.toArray t)).rangeAt w.heap.size 0 q∧((w.alloc (.cells q.toArray t)).alloc (.cells q'.toArray t)).rangeAt (w.heap.size+1) 0 q'∧Below w.heap.size w ((w.alloc (.cells q.toArray t)).alloc (.cells q'.toArray t))∧w.heap.size+2≤((w.alloc (.cells q.toArray t)).alloc (.cells q'.toArray t)).heap.size:=by
 have hB:Below w.heap.size w (w.alloc (.cells q.toArray t)):=(Below.refl _ _).alloc (Nat.le_refl _) _
 have hB2:Below (w.alloc (.cells q.toArray t)).heap.size (w.alloc (.cells q.toArray t)) ((w.alloc (.cells q.toArray t)).alloc (.cells q'.toArray t)):=(Below.refl _ _).alloc (Nat.le_refl _) _
 have h1:=zy w q.toArray t
 have h2:=zy (w.alloc (.cells q.toArray t)) q'.toArray t
 rw[World.size_alloc]at h2
 exact⟨zd (by simpa using h1) hB2 (by simp),by simpa using h2,hB.trans (hB2.mono (by simp)),by simp⟩
structure Sl (α:Type) where
 a:Option Addr
 cap:Nat
 xs:List α
instance {α:Type}:Inhabited (Sl α):=⟨⟨none,0,[]⟩⟩
def Sl.val {α:Type} (x:Sl α):Value:=.slice x.a x.xs.length x.cap
def Sl.At {α:Type} (E:El α) (w:World) (x:Sl α):Prop:=RowsAt E w x.a x.xs
theorem Sl.At.below {α:Type} {E:El α} {w w':World} {x:Sl α} (h:x.At E w) (hb:Below w.heap.size w w'):x.At E w':=RowsAt.below h hb
def batB (q:Bool) (x:Sl Rq) (q':Bool) (x':Sl Rq):Bool:=(q==q')&&sameL Rq.B x.xs x'.xs
theorem zgh (q:Bool) (x:Sl Rq) (q':Bool) (x':Sl Rq) (w:World) (h:x.At RqE w) (h':x'.At RqE w):
  Calls prog 130 #[.agg #[.bool q,x.val],.agg #[.bool q',x'.val]] w fun e w'=>e=.returned (.bool (batB q x q' x'))∧Below w.heap.size w w':=by
 obtain⟨a,cap,rs⟩:=x
 obtain⟨a',cap',rs'⟩:=x'
 have ce:=fun w0 h0 h1=>zj6 a cap rs a' cap' rs' w0 h0 h1
 have hB:Below w.heap.size w ((w.alloc (.cells #[.bool q,.slice a rs.length cap] 39)).alloc (.cells #[.bool q',.slice a' rs'.length cap'] 39)):=((Below.refl _ w).alloc (Nat.le_refl _) _).alloc (by simp) _
 have h1:RowsAt RqE _ a rs:=RowsAt.below h hB
 have h1':RowsAt RqE _ a' rs':=RowsAt.below h' hB
 have E:batB q ⟨a,cap,rs⟩ q' ⟨a',cap',rs'⟩=((q==q')&&sameL Rq.B rs rs'):=rfl
 rw[E]
 clear E h h'
 simp only[Sl.val]
 generalize sameL Rq.B rs rs'=sb at *
 cases q<;>cases q'
 case false.true|true.false=>
  clear ce
  go_enter func130,ntmps130
  go_wp2
  go_ret
  exact⟨rfl,hB⟩
 all_goals
  cases sb
  all_goals
   go_enter func130,ntmps130
   go_wp2_with fail
   refine(ce _ h1 h1').mono ?_
   rintro e w2 ⟨rfl,hb2⟩
   have hB2:=hB.trans (hb2.mono hB.size)
   clear ce h1 h1' hb2
   go_wp2
   go_ret
   exact⟨rfl,hB2⟩
def certL (x:Vt) (s:Sl Sg):List Value:=x.cells++[s.val]
def certB (x:Vt) (s:Sl Sg) (y:Vt) (t:Sl Sg):Bool:=vtB x y&&sameL Sg.B s.xs t.xs
theorem zex (x y:Vt) (s t:Sl Sg) (w:World) (hx:x.ok) (hy:y.ok) (hs:s.At SgE w) (ht:t.At SgE w):Calls prog 133 #[.agg (certL x s).toArray,.agg (certL y t).toArray] w fun e w'=>e=.returned (.bool (certB x s y t))∧Below w.heap.size w w':=by
 obtain⟨hA,hA',hB,hz⟩:=zcW (certL x s) (certL y t) 50 w
 have r1:=zP hA
 have r1':=zP hA'
 have c1:=zZ hA 0 _ rfl
 have c1':=zZ hA' 0 _ rfl
 rw[hx.len]at c1
 rw[hy.len]at c1'
 simp only[Nat.zero_add,Nat.add_zero]at c1 c1'
 have ix:(prog.info? 43).map (·.size)=some x.cells.length:=by rw[hx.len];exact iszV
 have iy:(prog.info? 43).map (·.size)=some y.cells.length:=by rw[hy.len];exact iszV
 have hq:=eqInV x y hx.dl hy.dl
 obtain⟨a,cap,rs⟩:=s
 obtain⟨a',cap',rs'⟩:=t
 have ce:=fun w0 h0 h1=>zfP a cap rs a' cap' rs' w0 h0 h1
 have h1:RowsAt SgE _ a rs:=RowsAt.below hs hB
 have h1':RowsAt SgE _ a' rs':=RowsAt.below ht hB
 have E:certB x ⟨a,cap,rs⟩ y ⟨a',cap',rs'⟩=(vtB x y&&sameL Sg.B rs rs'):=rfl
 rw[E]
 simp only[Sl.val]at c1 c1'
 clear hA hA' hz hx hy E hs ht
 generalize certL x ⟨a,cap,rs⟩=q at *
 generalize certL y ⟨a',cap',rs'⟩=q' at *
 generalize x.cells=u at *
 generalize y.cells=u' at *
 generalize vtB x y=vb at *
 generalize sameL Sg.B rs rs'=sb at *
 cases vb
 ·go_enter func133,ntmps133
  go_upto_region 1 with fail
  go_name_world w1 hw1
  rw[show(w.alloc (.cells q.toArray 50)).alloc (.cells q'.toArray 50)=w1 from hw1]at r1 r1' c1 c1' hB h1 h1'
  clear hw1 ce
  go_wp2_with (first|(refine wpList_load_mid rfl 43 _ rfl _ _ rfl u _ r1 underlying43 rfl ix ?_)|(refine wpList_load_mid rfl 43 _ rfl _ _ rfl u' _ r1' underlying43 rfl iy ?_))
  go_ret
  exact⟨rfl,hB⟩
 ·cases sb
  all_goals
   go_enter func133,ntmps133
   go_upto_region 1 with fail
   go_name_world w1 hw1
   rw[show(w.alloc (.cells q.toArray 50)).alloc (.cells q'.toArray 50)=w1 from hw1]at r1 r1' c1 c1' hB h1 h1'
   clear hw1
   go_wp2_with (first|(refine wpList_load_mid rfl 43 _ rfl _ _ rfl u _ r1 underlying43 rfl ix ?_)|(refine wpList_load_mid rfl 43 _ rfl _ _ rfl u' _ r1' underlying43 rfl iy ?_))
   refine(ce _ h1 h1').mono ?_
   rintro e2 w2 ⟨rfl,hb2⟩
   have hB2:=hB.trans (hb2.mono hB.size)
   clear ce h1 h1' hb2 c1 c1' r1 r1'
   go_wp2
   go_ret
   exact⟨rfl,hB2⟩
structure Hd where
 q:Bool
 rs:Sl Rq
 vt:Vt
 sg:Sl Sg
instance:Inhabited Hd:=⟨⟨false,default,Vt.zero,default⟩⟩
def Hd.cells (h:Hd):List Value:=.bool h.q::h.rs.val::certL h.vt h.sg
def HdE:El Hd where
 f:=Hd.cells
 k:=39
 ok:=fun h=>h.vt.ok
 len:=fun h hv=>by have:=hv.len;simp[Hd.cells,certL];omega
 one:=fun h v hv=>by
  simp only[Hd.cells,certL,List.mem_cons,List.mem_append,List.not_mem_nil,or_false]at hv
  rcases hv with rfl|rfl|hv|rfl
  ·rfl
  ·rfl
  ·exact Vt.one _ v hv
  ·rfl
def Hd.At (w:World) (h:Hd):Prop:=h.rs.At RqE w∧h.sg.At SgE w
theorem Hd.At.below {w w':World} {h:Hd} (k:h.At w) (hb:Below w.heap.size w w'):h.At w':=⟨k.1.below hb,k.2.below hb⟩
def Hd.B (h g:Hd):Bool:=batB h.q h.rs g.q g.rs&&certB h.vt h.sg g.vt g.sg
theorem iszH:(prog.info? 113).map (·.size)=some 39:=by kernel_rfl
theorem zhD (h g:Hd) (w:World) (kh:h.vt.ok) (kg:g.vt.ok) (ah:h.At w) (ag:g.At w):Calls prog 164 #[.agg h.cells.toArray,.agg g.cells.toArray] w fun e w'=>e=.returned (.bool (Hd.B h g))∧Below w.heap.size w w':=by
 obtain⟨hA,hA',hB,hz⟩:=zcW h.cells g.cells 113 w
 have c0:=hA 0 _ rfl
 have c1:=hA 1 _ rfl
 have c0':=hA' 0 _ rfl
 have c1':=hA' 1 _ rfl
 simp only[Nat.zero_add,Nat.add_zero]at c0 c1 c0' c1'
 have rc:World.rangeAt _ w.heap.size 2 (certL h.vt h.sg):=zZ (cs:=[.bool h.q,h.rs.val]) hA
 have rc':World.rangeAt _ (w.heap.size+1) 2 (certL g.vt g.sg):=zZ (cs:=[.bool g.q,g.rs.val]) hA'
 have ic:(prog.info? 50).map (·.size)=some (certL h.vt h.sg).length:=by rw[show(certL h.vt h.sg).length=37 by simp[certL,kh.len]];exact iszC
 have ic':(prog.info? 50).map (·.size)=some (certL g.vt g.sg).length:=by rw[show(certL g.vt g.sg).length=37 by simp[certL,kg.len]];exact iszC
 have h1:=ah.below hB
 have g1:=ag.below hB
 have cb:=fun w0 k1 k2=>zgh h.q h.rs g.q g.rs w0 k1 k2
 have cc:=fun w0 k1 k2=>zex h.vt g.vt h.sg g.sg w0 kh kg k1 k2
 unfold Hd.B
 obtain⟨W,hW⟩:∃W,Hid ((w.alloc (.cells h.cells.toArray 113)).alloc (.cells g.cells.toArray 113)=W):=⟨_,hide rfl⟩
 rw[hW.out]at c0 c1 c0' c1' rc rc' hB hz h1 g1
 generalize h.cells=q at *
 generalize g.cells=q' at *
 generalize certL h.vt h.sg=u at *
 generalize certL g.vt g.sg=u' at *
 generalize batB h.q h.rs g.q g.rs=b1 at *
 generalize certB h.vt h.sg g.vt g.sg=b2 at *
 obtain⟨hrq,hrs⟩:=h1
 obtain⟨grq,grs⟩:=g1
 have B1:=cb W hrq grq
 obtain⟨_,⟨a,cap,rs⟩,_,sg⟩:=h
 obtain⟨_,⟨a',cap',rs'⟩,_,sg'⟩:=g
 simp only[Sl.val]at c1 c1' B1
 clear hA hA' kh kg ah ag cb hrq grq
 cases b1
 ·go_enter func164,ntmps164
  go_upto_region 1 with fail
  go_name_world w1 hw1
  obtain rfl:W=w1:=hW.out.symm.trans hw1
  clear hw1 hW cc
  go_wp2_with fail
  refine B1.mono ?_
  rintro e2 w2 ⟨rfl,hb2⟩
  have hB2:=hB.trans (hb2.mono (by omega))
  clear B1 c0 c1 c0' c1' rc rc' hb2
  go_wp2
  go_ret
  exact⟨rfl,hB2⟩
 ·cases b2
  all_goals
   go_enter func164,ntmps164
   go_upto_region 1 with fail
   go_name_world w1 hw1
   obtain rfl:W=w1:=hW.out.symm.trans hw1
   clear hw1 hW
   go_wp2_with fail
   refine B1.mono ?_
   rintro e2 w2 ⟨rfl,hb2⟩
   have hB2:=hB.trans (hb2.mono (by omega))
   have C2:=cc w2 (hrs.below hb2) (grs.below hb2)
   have rc2:=zd rc hb2 (by omega)
   have rc2':=zd rc' hb2 (by omega)
   clear B1 c0 c1 c0' c1' rc rc' hb2 cc hrs grs
   go_wp2_with (first|(refine zS (by rfl) 50 _ rfl _ _ rfl u _ rc2 underlying50 rfl ic ?_)|(refine zS (by rfl) 50 _ rfl _ _ rfl u' _ rc2' underlying50 rfl ic' ?_))
   refine C2.mono ?_
   rintro e3 w3 ⟨rfl,hb3⟩
   have hB3:=hB2.trans (hb3.mono hB2.size)
   clear C2 rc2 rc2' hb3
   go_wp2
   go_ret
   exact⟨rfl,hB3⟩
end Go.Proofs.YtcbpbkefggekmaaGreatDoor
