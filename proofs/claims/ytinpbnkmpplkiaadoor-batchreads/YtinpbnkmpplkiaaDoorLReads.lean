/- The document's Get of requests: its contract. the document's Get of a batch: its contract The law BatchBack: its walk. The law BatchReads: its walk. Any batch has the bytes and the digest that the document says; any bytes are read as it says. Conditions: none beyond the row's own; the card ties the tables 'starts' and 'roots' of package digest to the program's text (of the pruned copy of the project). -/
import Derived.Test.YtinpbnkmpplkiaaDoorJRB
import Derived.Test.YtinpbnkmpplkiaaDoorJBg
import Derived.Test.YtinpbnkmpplkiaaDoorFork
import Derived.Test.YtinpbnkmpplkiaaDoorJBa
import Derived.Test.YtinpbnkmpplkiaaDoorFrameR
namespace Go.Proofs.YtinpbnkmpplkiaaDoor
open Go.RowKit
open Sha Tal
theorem RSt.lt {D : Nat} {w : World} {R : Nat} {rest : List Int} {e : Int} (h : RSt D w R rest e) : R < w.heap.size := by
  obtain ⟨zs, p, hR, _⟩ := h
  exact hR.1
theorem RSt.cell2 {D : Nat} {w : World} {R : Nat} {rest : List Int} {e : Int} (h : RSt D w R rest e) : w.cell? ⟨R, 2, none⟩ = some (.int .i64 e) := by
  obtain ⟨zs, p, hR, _⟩ := h
  exact hR.2.2.2.1
theorem tag_step (c n : Int) (s : ByteArray) (t : List Int) (i : Nat) (hi : i < 16) (ht : t.length = 16) : reqL c n s (t.take (i + 1) ++ List.replicate (16 - (i + 1)) (0 : Int)) = (reqL c n s (t.take i ++ List.replicate (16 - i) (0 : Int))).set (3 + i) (.int .u8 (t.getD i 0)) := by
  have e : (t.take i ++ List.replicate (16 - i) (0 : Int)).set i (t.getD i 0) = t.take (i + 1) ++ List.replicate (16 - (i + 1)) (0 : Int) := by
    have hl : (t.take i).length = i := by rw [List.length_take]; omega
    rw [List.set_append, if_neg (by omega), hl, Nat.sub_self, show 16 - i = (16 - (i + 1)) + 1 by omega, List.replicate_succ, List.set_cons_zero, List.getD_eq_getElem?_getD, List.getElem?_eq_getElem (by omega)]
    simp
    rw [List.take_succ_eq_append_getElem (by omega), List.append_assoc]
    rfl
  rw [← e, show 3 + i = i + 1 + 1 + 1 by omega]
  show _ :: _ :: _ :: v8 _ = _ :: _ :: _ :: (v8 _).set i _
  rw [v8_set]
set_option maxRecDepth 100000 in
set_option maxHeartbeats 4000000 in
theorem refRGet_any (D R : Nat) (rest : List Int) (e : Int) (w : World) (h : RSt D w R rest e) :
    Calls Tryd.prog 53 #[.pointer (some ⟨R, 0, none⟩)] w fun en w' => en = .returned (.agg (rgetL (rgetR rest e)).toArray) ∧ RSt D w' R (rgetR rest e).rest (rgetR rest e).err ∧ w.grownBy w' (some R) := by
  have hRw := RSt.lt h
  obtain ⟨G, hG⟩ : ∃ G, Hid (rgetR rest e = G) := ⟨_, rfl⟩
  rw [hG.out]
  have k0 := hG.out
  unfold rgetR at k0
  simp only at k0
  clear hG
  have c1 := fun w0 h0 => refNum_any (B := D) R rest e 8 w0 h0
  obtain ⟨v1, hv1⟩ : ∃ x, Hid ((numS rest e 8).1 = x) := ⟨_, rfl⟩
  obtain ⟨r1, hr1⟩ : ∃ x, Hid ((numS rest e 8).2.1 = x) := ⟨_, rfl⟩
  obtain ⟨e1, he1⟩ : ∃ x, Hid ((numS rest e 8).2.2 = x) := ⟨_, rfl⟩
  simp only [hv1.out, hr1.out, he1.out] at k0 c1
  have c2 := fun w0 h0 => refNum_any (B := D) R r1 e1 1099511627776 w0 h0
  obtain ⟨v2, hv2⟩ : ∃ x, Hid ((numS r1 e1 1099511627776).1 = x) := ⟨_, rfl⟩
  obtain ⟨r2, hr2⟩ : ∃ x, Hid ((numS r1 e1 1099511627776).2.1 = x) := ⟨_, rfl⟩
  obtain ⟨e2, he2⟩ : ∃ x, Hid ((numS r1 e1 1099511627776).2.2 = x) := ⟨_, rfl⟩
  simp only [hv2.out, hr2.out, he2.out] at k0 c2
  have c3 := fun w0 h0 => refText_any (B := D) R r2 e2 64 w0 h0
  obtain ⟨v3, hv3⟩ : ∃ x, Hid ((textS r2 e2 64).1 = x) := ⟨_, rfl⟩
  obtain ⟨r3, hr3⟩ : ∃ x, Hid ((textS r2 e2 64).2.1 = x) := ⟨_, rfl⟩
  obtain ⟨e3, he3⟩ : ∃ x, Hid ((textS r2 e2 64).2.2 = x) := ⟨_, rfl⟩
  simp only [hv3.out, hr3.out, he3.out] at k0 c3
  have f4 := rawS_16 r3 e3
  have c4 := fun w0 h0 => refRaw_any (B := D) R r3 e3 16 w0 h0
  obtain ⟨v4, hv4⟩ : ∃ x, Hid ((rawS r3 e3 16).1 = x) := ⟨_, rfl⟩
  obtain ⟨r4, hr4⟩ : ∃ x, Hid ((rawS r3 e3 16).2.1 = x) := ⟨_, rfl⟩
  obtain ⟨e4, he4⟩ : ∃ x, Hid ((rawS r3 e3 16).2.2 = x) := ⟨_, rfl⟩
  simp only [hv4.out, hr4.out, he4.out] at k0 f4 c4
  obtain ⟨hv4l, hv4e⟩ := f4
  have G1 : Hid (rgetL G = if e4 = 0 then reqL v1 v2 (strOf v3) v4 else noReq) := hide (by rw [← k0]; rfl)
  have G2 : Hid (G.rest = r4) := hide (by rw [← k0])
  have G3 : Hid (G.err = e4) := hide (by rw [← k0])
  clear k0 hv1 hr1 he1 hv2 hr2 he2 hv3 hr3 he3 hv4 hr4 he4
  generalize strOf v3 = sv at *
  have hb1 : Below w.heap.size w (w.alloc (.cells noReq.toArray 60)) := (Below.refl _ _).alloc (Nat.le_refl _) _
  have ht1 := there_new w noReq.toArray 60
  have hz1 : (w.alloc (.cells noReq.toArray 60)).heap.size = w.heap.size + 1 := World.size_alloc _ _
  have hb2 : Below (w.alloc (.cells noReq.toArray 60)).heap.size (w.alloc (.cells noReq.toArray 60)) ((w.alloc (.cells noReq.toArray 60)).alloc (.cells noReq.toArray 60)) := (Below.refl _ _).alloc (Nat.le_refl _) _
  have ht2 := there_new (w.alloc (.cells noReq.toArray 60)) noReq.toArray 60
  have hr2 := range_new (w.alloc (.cells noReq.toArray 60)) noReq.toArray 60
  have hz2 : ((w.alloc (.cells noReq.toArray 60)).alloc (.cells noReq.toArray 60)).heap.size = w.heap.size + 2 := by rw [World.size_alloc, hz1]
  rw [hz1] at ht2 hr2
  have hb12 : Below w.heap.size w ((w.alloc (.cells noReq.toArray 60)).alloc (.cells noReq.toArray 60)) := hb1.trans (hb2.mono hb1.size)
  have gs0 : GS w R noReq ((w.alloc (.cells noReq.toArray 60)).alloc (.cells noReq.toArray 60)) := ⟨by simpa using hr2, ht2, there_below ht1 hb2 (by omega), gb_below hb12 _, by omega⟩
  have s0 := h.below hb12
  clear hb1 ht1 hb2 ht2 hr2 hb12 hz1 hz2 h
  go_enter Tryd.func53, Tryd.ntmps53
  go_upto_region 2 with fail
  obtain ⟨w1, hw1⟩ : ∃ w1, (w.alloc (.cells noReq.toArray 60)).alloc (.cells noReq.toArray 60) = w1 := ⟨_, rfl⟩
  rw [hw1] at gs0 s0
  rw [litReq, hw1]
  clear hw1
  try simp only [Act.put]
  have hsz := gs0.size
  go_wp2_with fail
  refine (c1 w1 s0).mono ?_
  rintro en w2 ⟨rfl, s2, g2⟩
  have gs2 := gs0.gb hRw g2
  clear c1 gs0 s0 g2 hsz
  have hq : w2.cell? ⟨w.heap.size + 1, 0, none⟩ = some (.int .i64 0) := gs2.row 0 _ rfl
  have hf : w2.frozen? ⟨w.heap.size + 1, 0, none⟩ = false := (gs2.box 0 (by decide)).2
  have gs3 := gs2.set 0 (.int .i64 v1)
  have s3 := s2.gb (gb_set w2 (w.heap.size + 1) 0 (.int .i64 v1)) (.inr (by omega))
  go_wp2_with fail
  obtain ⟨w3, hw3⟩ : ∃ w3, w2.setCell ⟨w.heap.size + 1, 0, none⟩ (.int .i64 v1) = w3 := ⟨_, rfl⟩
  rw [hw3] at gs3 s3 ⊢
  clear hw3 gs2 s2 hq hf
  refine (c2 w3 s3).mono ?_
  rintro en w4 ⟨rfl, s4, g4⟩
  have gs4 := gs3.gb hRw g4
  clear c2 gs3 s3 g4
  have hq : w4.cell? ⟨w.heap.size + 1, 1, none⟩ = some (.int .i64 0) := gs4.row 1 _ rfl
  have hf : w4.frozen? ⟨w.heap.size + 1, 1, none⟩ = false := (gs4.box 1 (by decide)).2
  have gs5 := gs4.set 1 (.int .i64 v2)
  have s5 := s4.gb (gb_set w4 (w.heap.size + 1) 1 (.int .i64 v2)) (.inr (by omega))
  go_wp2_with fail
  obtain ⟨w5, hw5⟩ : ∃ w5, w4.setCell ⟨w.heap.size + 1, 1, none⟩ (.int .i64 v2) = w5 := ⟨_, rfl⟩
  rw [hw5] at gs5 s5 ⊢
  clear hw5 gs4 s4 hq hf
  refine (c3 w5 s5).mono ?_
  rintro en w6 ⟨rfl, s6, g6⟩
  have gs6 := gs5.gb hRw g6
  clear c3 gs5 s5 g6
  have hq : w6.cell? ⟨w.heap.size + 1, 2, none⟩ = some (.string ⟨#[]⟩) := gs6.row 2 _ rfl
  have hf : w6.frozen? ⟨w.heap.size + 1, 2, none⟩ = false := (gs6.box 2 (by decide)).2
  have gs7 : GS w R (reqL v1 v2 sv zeros16) (w6.setCell ⟨w.heap.size + 1, 2, none⟩ (.string sv)) := gs6.set 2 (.string sv)
  have s7 := s6.gb (gb_set w6 (w.heap.size + 1) 2 (.string sv)) (.inr (by omega))
  go_upto_region 5 with fail
  obtain ⟨w7, hw7⟩ : ∃ w7, w6.setCell ⟨w.heap.size + 1, 2, none⟩ (.string sv) = w7 := ⟨_, rfl⟩
  rw [hw7] at gs7 s7 ⊢
  clear hw7 gs6 s6 hq hf
  try simp only [Act.put]
  go_wp2_with fail
  refine (c4 w7 s7).mono ?_
  rintro en w9 ⟨v9, rfl, m9, s9, g9⟩
  have gs9 := gs7.gb hRw g9
  have hA9 : ∀ x, ∀ a cap, v9 = .slice a v4.length cap → a = some x → x.block ≠ w.heap.size + 1 := by
    intro x a cap hv hx
    subst hv hx
    have hs7 := gs7.size
    rcases m9.1.2 with ⟨hv, _⟩ | ⟨g, cp, cur, hv, hg, _⟩
    · cases hv
    · injection hv with hv _ _
      injection hv with hv
      subst hv
      show g ≠ w.heap.size + 1
      omega
  obtain ⟨a9, cap9, rfl, hc9, hm9, row9⟩ := m9.rowAt (by unfold maxLen; rcases hv4l with q | q <;> (first | omega | (rw [q]; decide)))
  have hA9 : ∀ x, a9 = some x → x.block ≠ w.heap.size + 1 := fun x hx => hA9 x a9 cap9 rfl hx
  clear c4 gs7 s7 g9 m9
  have x2 : w9.cell? ⟨R, 2, none⟩ = some (.int .i64 e4) := RSt.cell2 s9
  have hi := iszN
  have ho : (noReq.toArray.all fun x => x.oneCell') = true := all_oneCell_toArray (reqL_one 0 0 ⟨#[]⟩ zeros16)
  have hszz := gs9.size
  by_cases he : e4 = 0
  · subst he
    have h16 := hv4e rfl
    have E1 : Hid (rgetL G = reqL v1 v2 sv v4) := hide (by rw [G1.out, if_pos rfl])
    clear hv4l hv4e hi ho
    go_wp2_with fail
    go_loopw [5] (fun iv wr => ∃ i : Nat, i ≤ 16 ∧ iv = .int .i64 (i : Int) ∧ GS w R (reqL v1 v2 sv (v4.take i ++ List.replicate (16 - i) (0 : Int))) wr ∧ RowAt wr a9 v4 ∧ RSt D wr R r4 0) (fun iv _ => 16 - (intOf iv).toNat)
    case atStart => exact ⟨0, by omega, rfl, gs9, row9, s9⟩
    case round =>
      obtain ⟨i, hi16, rfl, gsr, rowr, sr⟩ := hrel
      by_cases hlt : i < 16
      · obtain ⟨b, off, rfl, hb, hcx, hx0, hx1⟩ := rowr.get i (by omega)
        have HT : Hid (reqL v1 v2 sv (v4.take (i + 1) ++ List.replicate (16 - (i + 1)) (0 : Int)) = (reqL v1 v2 sv (v4.take i ++ List.replicate (16 - i) (0 : Int))).set (3 + i) (.int .u8 (v4.getD i 0))) := hide (tag_step v1 v2 sv v4 i hlt h16)
        have hcell := gsr.box (3 + i) (by omega)
        rw [Nat.zero_add] at hcell
        obtain ⟨u, hu⟩ := Option.isSome_iff_exists.1 hcell.1
        have hfz := hcell.2
        have gsn := gsr.set (3 + i) (.int .u8 (v4.getD i 0))
        have rown := rowr.gb (gb_set wr (w.heap.size + 1) (3 + i) (.int .u8 (v4.getD i 0))) (.inr hA9)
        have sn := sr.gb (gb_set wr (w.heap.size + 1) (3 + i) (.int .u8 (v4.getD i 0))) (.inr (by omega))
        generalize v4.getD i 0 = x at *
        have hil : (i : Int) < v4.length := by omega
        have hil2 : (i : Int) < 16 := by omega
        go_wp2_with fail
        go_roundw
        case rel => exact ⟨i + 1, by omega, by go_num, by rw [HT.out]; exact gsn, rown, sn⟩
        case measure => simp [intOf]; omega
      · obtain rfl : i = 16 := by omega
        have HZ : v4.take 16 ++ List.replicate (16 - 16) (0 : Int) = v4 := by rw [Nat.sub_self, List.replicate_zero, List.append_nil, List.take_of_length_le (by omega)]
        rw [HZ] at gsr
        clear HZ
        have hiq : (Tryd.prog.info? 60).map (·.size) = some (reqL v1 v2 sv v4).length := by rw [reqL_length _ _ _ _ h16]; exact iszR
        have hoq := all_oneCell_toArray (reqL_one v1 v2 sv v4)
        have hiq' : (Tryd.prog.info? 60).map (·.size) = some (reqL v1 v2 sv v4).toArray.size := by rw [List.size_toArray]; exact hiq
        obtain ⟨q, hq⟩ : ∃ q, Hid (reqL v1 v2 sv v4 = q) := ⟨_, rfl⟩
        have hql : q.length = 19 := by rw [← hq.out]; exact reqL_length _ _ _ _ h16
        rw [hq.out] at E1 hiq hoq hiq'
        have hrow : wr.rangeAt (w.heap.size + 1) 0 q := by rw [← hq.out]; exact gsr.row
        have hans : wr.there w.heap.size 0 q.toArray.size := by have := gsr.ans; rw [← hql] at this; exact this
        have hrs := run_loadVar_mid (P := Tryd.prog) (wr.setCells w.heap.size 0 q) w.heap.size 0 60 q _ (World.rangeAt_setCells_same wr w.heap.size 0 q (by have := hans; simpa using this)) Tryd.underlying60 rfl hiq
        have gf := gb_onR gsr.grown (below_sets (B := w.heap.size) (b := w.heap.size) (Nat.le_refl _) q 0 _ (Below.refl _ wr)) (Nat.le_refl _)
        have sf := sr.gb (gb_setsR wr w.heap.size q 0) (.inr hRw)
        clear gsr sr rowr
        go_wp2_with (first | refine wpList_load_mid (op := ⟨some 34, .load 60 (.tmp 3), _, _, _, none⟩) rfl 60 _ rfl _ _ rfl q _ hrow Tryd.underlying60 rfl hiq ?_ | refine wpList_store_mid (op := ⟨none, .store 60 (.tmp 2) (.tmp 34), _, _, _, none⟩) rfl 60 _ _ rfl _ _ q.toArray rfl rfl hans hiq' hoq ?_)
        refine bodyPost_ret (v := .agg q.toArray) ?_ rfl ?_
        · simp [results, Tryd.results53, Act.put, asAddr, hrs]
        · exact ⟨by rw [E1.out], by rw [G2.out, G3.out]; exact sf, gf⟩
  · have E1 : Hid (rgetL G = noReq) := hide (by rw [G1.out, if_neg he])
    have hans : w9.there w.heap.size 0 noReq.toArray.size := gs9.ans
    have hi' : (Tryd.prog.info? 60).map (·.size) = some noReq.length := by simpa using hi
    have hlit := litReq
    obtain ⟨q, hq⟩ : ∃ q, Hid (noReq = q) := ⟨_, rfl⟩
    rw [hq.out] at E1 hi ho hans hi' hlit
    have hrs := run_loadVar_mid (P := Tryd.prog) (w9.setCells w.heap.size 0 q) w.heap.size 0 60 q _ (World.rangeAt_setCells_same w9 w.heap.size 0 q (by have := hans; simpa using this)) Tryd.underlying60 rfl hi'
    have gf := gb_onR gs9.grown (below_sets (B := w.heap.size) (b := w.heap.size) (Nat.le_refl _) q 0 _ (Below.refl _ w9)) (Nat.le_refl _)
    have sf := s9.gb (gb_setsR w9 w.heap.size q 0) (.inr hRw)
    clear gs9 s9 hv4l hv4e
    go_wp2_with (refine wpList_store_mid (op := ⟨none, .store 60 (.tmp 2) (.tmp 22), _, _, _, none⟩) rfl 60 _ _ rfl _ _ q.toArray rfl (by rw [← hlit]; rfl) hans hi ho ?_)
    refine bodyPost_ret (v := .agg q.toArray) ?_ rfl ?_
    · simp [results, Tryd.results53, Act.put, asAddr, hrs]
    · exact ⟨by rw [E1.out], by rw [G2.out, G3.out]; exact sf, gf⟩
end Go.Proofs.YtinpbnkmpplkiaaDoor
namespace Go.Proofs.YtinpbnkmpplkiaaDoor
open Go.RowKit
open Sha Tal
/-- what is read, in the document's own variable -/
structure RL2 (D : Nat) (w : World) (R V : Nat) (rest : List Int) (e : Int) (k : Nat) (v : Value) (W : World) : Prop where
  own : W.ownsRow (V + 1) 60 19 v k (flatR (getRs k rest e).1)
  st : RSt D W R (getRs k rest e).2.1 (getRs k rest e).2.2
  gb : w.grownBy W (some R)
  res : W.there w.heap.size 0 2
  box : W.rangeAt V 0 [.bool false, v]
  boxT : W.there V 0 2
  size : V + 1 ≤ W.heap.size
theorem step_req {w : World} {B k : Nat} {v : Value} {xs u : List Value} (h : w.ownsRow B 60 19 v k xs) (hu : u.length = 19) (hone : ∀ x ∈ u, x.oneCell' = true) (hB : B ≤ w.heap.size) (hk : k ≤ 1000) :
    ∃ g c w', (Builtin.append_ #[22, 22] 22 #[v, .slice (some ⟨w.heap.size, 0, none⟩) 1 1]).run Tryd.prog (w.alloc (.cells u.toArray 60)) = .ok (.slice (some ⟨g, 0, none⟩) (k + 1) c) w' ∧ w'.ownsRow B 60 19 (.slice (some ⟨g, 0, none⟩) (k + 1) c) (k + 1) (xs ++ u) ∧ Below B w w' := by
  obtain ⟨i1, hi1, hiz, his, hib⟩ := info_parts infoR
  have hb5 : Below w.heap.size w (w.alloc (.cells u.toArray 60)) := (Below.refl _ _).alloc (Nat.le_refl _) _
  have hR5 : (w.alloc (.cells u.toArray 60)).rangeAt w.heap.size 0 u := by simpa using range_new w u.toArray 60
  have hsrc : Src Tryd.prog 19 22 (.slice (some ⟨w.heap.size, 0, none⟩) 1 1) 1 u (w.alloc (.cells u.toArray 60)) :=
    Src.ofSlice _ Tryd.underlying22 ⟨w.heap.size, 0, none⟩ 1 1 u (by omega) (fun j v hv => by rw [Addr.add_mid]; exact hR5 j v hv) hone
  have hown5 := h.alloc (.cells u.toArray 60)
  obtain ⟨v', w', hr, ho, hg⟩ := run_append_own_src (P := Tryd.prog) _ B 22 22 22 60 i1 (.agg noReq.toArray) 19 48 Tryd.underlying22 hi1 hiz his hib rfl v k xs hown5 _ 1 u hsrc (by unfold maxLen; omega) (by omega) (Nat.le_trans hB hb5.size)
  obtain ⟨g, c, rfl⟩ : ∃ g c, v' = .slice (some ⟨g, 0, none⟩) (k + 1) c := by
    rcases ho.2 with ⟨_, h0⟩ | ⟨g, cap, cur, hv, _⟩
    · omega
    · exact ⟨g, cap, hv⟩
  exact ⟨g, c, w', hr, ho, (hb5.mono hB).grown hg (Nat.le_trans hB hb5.size) (fun j hj => (hown5.lt j hj).1)⟩
theorem rst_low {D : Nat} {w w' : World} {R B : Nat} {rest : List Int} {e : Int} (h : RSt D w R rest e) (hb : Below B w w') (hR : R < B) : RSt D w' R rest e := by
  have key : ∀ b, b < B → w'.heap[b]? = w.heap[b]? := fun b hbb => hb.block b hbb
  obtain ⟨zs, p, ⟨h0, ⟨a, cap, g1, g2, g3, g4, g5⟩, h2, h3, f0, f1, f2⟩, hd⟩ := h
  have cR := fun o => @cell_block w w' R o (key R hR)
  refine ⟨zs, p, ⟨Nat.lt_of_lt_of_le h0 hb.size, ⟨a, cap, by rw [(cR 0).1]; exact g1, g2, g3, ⟨g4.1, g4.2.1, ?_⟩, g5⟩, by rw [(cR 1).1]; exact h2, by rw [(cR 2).1]; exact h3, by rw [(cR 0).2]; exact f0, by rw [(cR 1).2]; exact f1, by rw [(cR 2).2]; exact f2⟩, hd⟩
  rcases g4.2.2 with g | ⟨b, off, rfl, g6, g7⟩
  · exact .inl g
  · have hbR := (g5 _ rfl).2
    exact .inr ⟨b, off, rfl, Nat.lt_of_lt_of_le g6 hb.size, fun j v hv => by rw [(@cell_block w w' b (off + j) (key b (by simp at hbR; omega))).1]; exact g7 j v hv⟩
theorem store1 {wb : World} {V : Nat} (hb : wb.there V 0 2) (a : Option Addr) (n c : Nat) : (storeVar 22 ⟨V, 1, none⟩ (.slice a n c)).run Tryd.prog wb = .ok () (wb.setCell ⟨V, 1, none⟩ (.slice a n c)) := by
  have h1 := hb 1 (by omega)
  rw [Nat.zero_add] at h1
  obtain ⟨x, hx⟩ := Option.isSome_iff_exists.1 h1.1
  have hf := h1.2
  go_simp
theorem World.grownBy_drew1 (w : World) : w.grownBy w.drew none := ⟨rfl, rfl, rfl, Nat.le_refl _, fun _ _ _ => rfl⟩
set_option maxRecDepth 100000 in
set_option maxHeartbeats 4000000 in
theorem refBget_any (D R : Nat) (rest : List Int) (e : Int) (w : World) (h : RSt D w R rest e) (hbs : e = 0 → Bs rest) :
    Calls Tryd.prog 28 #[.pointer (some ⟨R, 0, none⟩)] w fun en w' => ∃ a cap, en = .returned (batV (getB rest e).q a (getB rest e).rs.length cap) ∧ (getB rest e).rs.length ≤ cap ∧ cap ≤ maxLen ∧ ReqsAt w' a (getB rest e).rs ∧ (∀ x, a = some x → w.heap.size ≤ x.block) ∧ RSt D w' R (getB rest e).rest (getB rest e).err ∧ w.grownBy w' (some R) := by
  have hRw : R < w.heap.size := h.lt
  have cn := fun w0 h0 => refNum_any (B := D) R rest e 5 w0 h0
  have hx1 := numS_bd (most := 5) hbs (by omega)
  obtain ⟨j0, hj0⟩ := numS_sub rest e 5
  have hbs2 : (numS rest e 5).2.2 = 0 → Bs (numS rest e 5).2.1 := fun h0 => by rw [hj0]; exact (hbs (numS_err h0)).sub _
  have hz0 : (numS rest e 5).2.2 ≠ 0 → (numS rest e 5).1 = 0 := numS_zero
  obtain ⟨G, hG⟩ : ∃ G, Hid (getB rest e = G) := ⟨_, hide rfl⟩
  rw [hG.out]
  have hG := hG.out
  unfold getB at hG
  obtain ⟨x1, hx1e⟩ : ∃ x, Hid ((numS rest e 5).1 = x) := ⟨_, hide rfl⟩
  obtain ⟨x2, hx2e⟩ : ∃ x, Hid ((numS rest e 5).2.1 = x) := ⟨_, hide rfl⟩
  obtain ⟨x3, hx3e⟩ : ∃ x, Hid ((numS rest e 5).2.2 = x) := ⟨_, hide rfl⟩
  simp only [hx1e.out, hx2e.out, hx3e.out] at cn hx1 hbs2 hG hz0
  clear hx1e hx2e hx3e hj0 hbs
  have HG := hide hG
  clear hG
  have hN := there_new w #[.bool false, .slice none 0 0] 24
  have hB1 : Below w.heap.size w (w.alloc (.cells #[.bool false, .slice none 0 0] 24)) := (Below.refl _ _).alloc (Nat.le_refl _) _
  have hg1 : w.grownBy (w.alloc (.cells #[.bool false, .slice none 0 0] 24)) (some R) := World.grownBy_alloc w _ _
  have hs1 : w.heap.size + 1 ≤ (w.alloc (.cells #[.bool false, .slice none 0 0] 24)).heap.size := by simp
  go_enter Tryd.func28, Tryd.ntmps28
  go_upto_region 1 with fail
  go_name_world w1 hw1
  rw [hw1] at hN hB1 hg1 hs1
  clear hw1
  have hN : w1.there w.heap.size 0 2 := hN
  go_wp2_with fail
  refine (cn w1 (h.below hB1)).mono ?_
  rintro en w2 ⟨rfl, h2, hg2⟩
  have hgw2 := gb_trans hg1 hg2
  have hN2 := there_gbR hN hg2 (by omega) (by omega)
  have hs2 := Nat.le_trans hs1 hg2.size
  have c2 := h2.cell2
  clear cn hN hB1 hg1 hg2 hs1
  by_cases hx3 : x3 = 0
  rotate_left
  · have hx0 := hz0 hx3
    rw [if_pos hx0, decide_eq_false hx3] at HG
    have b0 : (x3 == 0) = false := by simpa using hx3
    clear hx3 hz0
    have hN := hN2
    have hRr := World.rangeAt_setCells_same w2 w.heap.size 0 [.bool false, .slice none 0 0] hN
    have hg9 : w2.grownBy (w2.setCells w.heap.size 0 [.bool false, .slice none 0 0]) (some w.heap.size) := gb_setsR w2 w.heap.size _ 0
    have h9 := h2.gb hg9 (.inr hRw)
    have hgw9 := gb_onR hgw2 (below_sets (Nat.le_refl w.heap.size) [.bool false, .slice none 0 0] 0 w2 (Below.refl w.heap.size w2)) (Nat.le_refl _)
    have hrs := run_loadVar_mid (P := Tryd.prog) (w2.setCells w.heap.size 0 [.bool false, .slice none 0 0]) w.heap.size 0 24 [.bool false, .slice none 0 0] _ hRr Tryd.underlying24 rfl iszB
    have HF : Hid (∃ a cap, Ending.returned (.agg #[.bool false, .slice none 0 0]) = .returned (batV G.q a G.rs.length cap) ∧ G.rs.length ≤ cap ∧ cap ≤ maxLen ∧ ReqsAt (w2.setCells w.heap.size 0 [.bool false, .slice none 0 0]) a G.rs ∧ (∀ x, a = some x → w.heap.size ≤ x.block) ∧ RSt D (w2.setCells w.heap.size 0 [.bool false, .slice none 0 0]) R G.rest G.err ∧ w.grownBy (w2.setCells w.heap.size 0 [.bool false, .slice none 0 0]) (some R)) := hide (by
      rw [← HG.out]
      exact ⟨none, 0, rfl, by simp, by unfold maxLen; omega, ReqsAt.none, (fun x hx => by cases hx), h9, hgw9⟩
    )
    go_upto_region 3 with fail
    try simp only [Act.put]
    refine wp_region_list ?_
    refine wpList_step fun K hK => ?_
    go_simp
    refine hK _ _ ?_
    clear hK K
    refine wpList_store_mid rfl 24 _ _ rfl _ _ #[.bool false, .slice none 0 0] rfl rfl hN iszB (by simp [Value.oneCell']) ?_
    go_wp2
    exact bodyPost_ret (v := .agg #[.bool false, .slice none 0 0]) (by simp [results, Tryd.results28, asAddr, hrs, Act.put]) rfl HF.out
  have b0 : (x3 == 0) = true := by simpa using hx3
  by_cases hx0 : x1 = 0
  · rw [if_pos hx0, decide_eq_true hx3] at HG
    subst hx0
    clear hx3 hz0
    have hN := hN2
    have hRr := World.rangeAt_setCells_same w2 w.heap.size 0 [.bool true, .slice none 0 0] hN
    have hg9 : w2.grownBy (w2.setCells w.heap.size 0 [.bool true, .slice none 0 0]) (some w.heap.size) := gb_setsR w2 w.heap.size _ 0
    have h9 := h2.gb hg9 (.inr hRw)
    have hgw9 := gb_onR hgw2 (below_sets (Nat.le_refl w.heap.size) [.bool true, .slice none 0 0] 0 w2 (Below.refl w.heap.size w2)) (Nat.le_refl _)
    have hrs := run_loadVar_mid (P := Tryd.prog) (w2.setCells w.heap.size 0 [.bool true, .slice none 0 0]) w.heap.size 0 24 [.bool true, .slice none 0 0] _ hRr Tryd.underlying24 rfl iszB
    have HF : Hid (∃ a cap, Ending.returned (.agg #[.bool true, .slice none 0 0]) = .returned (batV G.q a G.rs.length cap) ∧ G.rs.length ≤ cap ∧ cap ≤ maxLen ∧ ReqsAt (w2.setCells w.heap.size 0 [.bool true, .slice none 0 0]) a G.rs ∧ (∀ x, a = some x → w.heap.size ≤ x.block) ∧ RSt D (w2.setCells w.heap.size 0 [.bool true, .slice none 0 0]) R G.rest G.err ∧ w.grownBy (w2.setCells w.heap.size 0 [.bool true, .slice none 0 0]) (some R)) := hide (by
      rw [← HG.out]
      exact ⟨none, 0, rfl, by simp, by unfold maxLen; omega, ReqsAt.none, (fun x hx => by cases hx), h9, hgw9⟩
    )
    go_upto_region 5 with fail
    try simp only [Act.put]
    refine wp_region_list ?_
    refine wpList_step fun K hK => ?_
    go_simp
    refine hK _ _ ?_
    clear hK K
    refine wpList_store_mid rfl 24 _ _ rfl _ _ #[.bool true, .slice none 0 0] rfl rfl hN iszB (by simp [Value.oneCell']) ?_
    go_wp2
    exact bodyPost_ret (v := .agg #[.bool true, .slice none 0 0]) (by simp [results, Tryd.results28, asAddr, hrs, Act.put]) rfl HF.out
  · rw [if_neg hx0] at HG
    obtain ⟨K, rfl⟩ : ∃ K : Nat, x1 = (K : Int) + 1 := ⟨(x1 - 1).toNat, by omega⟩
    have hK4 : K ≤ 4 := by omega
    have b1 : (((K : Int) + 1) == 0) = false := by simp; omega
    have e3 : ((K : Int) + 1 - 1).toNat = K := by omega
    rw [e3] at HG
    have HB := hide hbs2
    clear hx0 hx1 e3 hbs2 hz0 hx3
    have hB3 : Below w2.heap.size w2 (w2.alloc (.cells #[.bool false, .slice none 0 0] 24)) := (Below.refl _ _).alloc (Nat.le_refl _) _
    have HL0 : Hid (RL2 D w R w2.heap.size x2 x3 0 (.slice none 0 0) (w2.alloc (.cells #[.bool false, .slice none 0 0] 24))) := hide
      ⟨World.ownsRow_nil _ _ _ _, h2.below hB3, gb_onR hgw2 hB3 hgw2.size, there_below hN2 hB3 (by omega), range_new w2 #[.bool false, .slice none 0 0] 24, there_new w2 #[.bool false, .slice none 0 0] 24, by simp⟩
    have hVw : w.heap.size + 1 ≤ w2.heap.size := hs2
    clear h2 hgw2 hN2 hs2 hB3
    go_upto_region 7 with fail
    go_name_world w3 hw3
    rw [show w2.alloc (.cells #[.bool false, .slice none 0 0] 24) = w3 from hw3] at HL0
    clear hw3 c2
    obtain ⟨V, hVe⟩ : ∃ V, Hid (w2.heap.size = V) := ⟨_, hide rfl⟩
    rw [hVe.out] at HL0 hVw ⊢
    have vset : ∀ (k : Nat) (u : List Value) (wa wb : World) (v' : Value) (W : World) (vv : Value), RL2 D w R V x2 x3 k vv W → RSt D wa R (getRs (k + 1) x2 x3).2.1 (getRs (k + 1) x2 x3).2.2 → W.grownBy wa (some R) → flatR (getRs (k + 1) x2 x3).1 = flatR (getRs k x2 x3).1 ++ u → wb.ownsRow (V + 1) 60 19 v' (k + 1) (flatR (getRs k x2 x3).1 ++ u) → Below (V + 1) wa wb → RL2 D w R V x2 x3 (k + 1) v' (wb.setCell ⟨V, 1, none⟩ v') := fun k u wa wb v' W vv hr sa ga he ob bb => by
      have hVW : V < W.heap.size := hr.size
      have e1 := range_below (range_gbR hr.box ga hVW (by omega)) bb (by omega)
      have e2 := range_set e1 1 v'
      rw [Nat.zero_add] at e2
      have hgs : wb.grownBy (wb.setCell ⟨V, 1, none⟩ v') (some V) := gb_set wb V 1 v'
      refine ⟨?_, ?_, ?_, there_set (there_below (there_gbR hr.res ga (by omega) (by omega)) bb (by omega)) _ _, e2, there_set (there_below (there_gbR hr.boxT ga hVW (by omega)) bb (by omega)) _ _, by rw [World.size_setCell]; exact Nat.le_trans (Nat.le_trans hr.size ga.size) bb.size⟩
      · rw [he]
        exact own19 ob hgs (fun g hh => by cases hh; omega)
      · exact (rst_low sa bb (by omega)).gb hgs (.inr (by omega))
      · exact gb_onR (gb_trans hr.gb ga) ((bb.mono (show w.heap.size ≤ V + 1 by omega)).setCell (p := ⟨V, 1, none⟩) (by show w.heap.size ≤ V; omega) v') (Nat.le_refl _)
    have HVS := hide vset
    clear vset
    go_wp2
    go_loopw [5] (fun iv wr => ∃ (k : Nat), k ≤ K ∧ iv = .int .i64 ((k : Int) + 1) ∧ Hid (∃ v, RL2 D w R V x2 x3 k v wr)) (fun iv _ => K + 1 - (intOf iv).toNat)
    case atStart => exact ⟨0, by omega, rfl, hide ⟨_, HL0.out⟩⟩
    case round =>
      clear HL0
      obtain ⟨k, hk, rfl, HL⟩ := hrel
      obtain ⟨v, hL⟩ := HL.out
      clear HL
      by_cases hlt : k < K
      · have k1 : (k : Int) + 1 < (K : Int) + 1 := by omega
        obtain ⟨⟨j, hj⟩, hje⟩ := getRs_sub k x2 x3
        have hok := rqOf_ok (rest := (getRs k x2 x3).2.1) (e := (getRs k x2 x3).2.2) (fun h0 => by rw [hj]; exact (HB.out (hje h0)).sub _)
        have cg := fun w0 h0 => refRGet_any D R (getRs k x2 x3).2.1 (getRs k x2 x3).2.2 w0 h0
        simp only [rqOf_cells] at cg
        have HS : Hid (flatR (getRs (k + 1) x2 x3).1 = flatR (getRs k x2 x3).1 ++ (rqOf (rgetR (getRs k x2 x3).2.1 (getRs k x2 x3).2.2)).cells) := hide (by
          show flatR ((getRs k x2 x3).1 ++ [rqOf (rgetR (getRs k x2 x3).2.1 (getRs k x2 x3).2.2)]) = _
          rw [flatR_append]
          simp [flatR])
        have HT : Hid ((getRs (k + 1) x2 x3).2 = ((rgetR (getRs k x2 x3).2.1 (getRs k x2 x3).2.2).rest, (rgetR (getRs k x2 x3).2.1 (getRs k x2 x3).2.2).err)) := hide rfl
        obtain ⟨g, hg⟩ : ∃ g, Hid (rgetR (getRs k x2 x3).2.1 (getRs k x2 x3).2.2 = g) := ⟨_, hide rfl⟩
        rw [hg.out] at hok HS HT
        simp only [hg.out] at cg
        obtain ⟨r, hr⟩ : ∃ r, Hid (rqOf g = r) := ⟨_, hide rfl⟩
        rw [hr.out] at hok HS
        simp only [hr.out] at cg
        have hul := hok.length
        have hone := r.one
        obtain ⟨u, hu⟩ : ∃ u, Hid (r.cells = u) := ⟨_, hide rfl⟩
        rw [hu.out] at HS hul hone
        simp only [hu.out] at cg
        have hfold := fold_u #[.int .i64 0, .int .i64 0, .string ⟨#[]⟩, .int .u8 0, .int .u8 0, .int .u8 0, .int .u8 0, .int .u8 0, .int .u8 0, .int .u8 0, .int .u8 0, .int .u8 0, .int .u8 0, .int .u8 0, .int .u8 0, .int .u8 0, .int .u8 0, .int .u8 0, .int .u8 0] u (by rw [hul]; rfl)
        clear hg hr hu hok hj hje
        go_upto_region 10 with fail
        obtain ⟨w5, hw5⟩ : ∃ w5, wr.drew = w5 := ⟨_, rfl⟩
        have hd : Below wr.heap.size wr wr.drew := (Below.refl _ _).drew
        have hL5 : RL2 D w R V x2 x3 k v w5 := by
          rw [← hw5]
          exact ⟨own19 hL.own (row := none) (World.grownBy_drew1 wr) (fun g hh => by cases hh), hL.st.below hd, gb_onR hL.gb hd hL.gb.size, there_below hL.res hd (by have := hL.size; omega), range_below hL.box hd (by have := hL.size; omega), there_below hL.boxT hd (by have := hL.size; omega), Nat.le_trans hL.size hd.size⟩
        have vc5 : w5.cell? ⟨V, 1, none⟩ = some v := hL5.box 1 _ rfl
        have own5 := hL5.own
        have boxT5 := hL5.boxT
        have hs5 := hL5.size
        have hV5 : V < w5.heap.size := hs5
        have cg5 := cg w5 hL5.st
        have vset : ∀ (wa wb : World) (v' : Value), RSt D wa R g.rest g.err → w5.grownBy wa (some R) → wb.ownsRow (V + 1) 60 19 v' (k + 1) (flatR (getRs k x2 x3).1 ++ u) → Below (V + 1) wa wb → Hid (∃ v, RL2 D w R V x2 x3 (k + 1) v (wb.setCell ⟨V, 1, none⟩ v')) := fun wa wb v' sa ga ob bb => hide ⟨v', HVS.out k u wa wb v' w5 v hL5 (by rw [HT.out]; exact sa) ga HS.out ob bb⟩
        have vst : ∀ (wb : World), wb.there V 0 2 → ∀ a n c, (storeVar 22 ⟨V, 1, none⟩ (.slice a n c)).run Tryd.prog wb = .ok () (wb.setCell ⟨V, 1, none⟩ (.slice a n c)) := fun wb hb a n c => store1 hb a n c
        clear hL HS HT HVS cg
        refine hs_begin (S := (fun _ : World => True)) 8 rfl (by kernel_rfl) ?_
        rw [hw5]
        clear hw5 hd
        have hS : (fun _ : World => True) w5 := trivial
        refine hs_take (i := 0) (d := some 22) (v := ?_) rfl (by kernel_rfl) (by kernel_rfl) (by kernel_rfl) (by rfl) ?_ hS rfl ?_
        rotate_left
        · intro w' hw
          go_simp
          try with_reducible rfl
        simp only [Act.put, List.setIfInBounds_toArray, List.set_cons_zero, List.set_cons_succ]
        refine hs_take (i := 2) (d := some 24) (v := ?_) rfl (by kernel_rfl) (by kernel_rfl) (by kernel_rfl) (by rfl) ?_ hS rfl ?_
        rotate_left
        · intro w' hw
          go_simp
          try with_reducible rfl
        simp only [Act.put, List.setIfInBounds_toArray, List.set_cons_zero, List.set_cons_succ]
        refine hs_fork (i := 1) (j := 3) (by kernel_rfl) ?_ ?_
        · have hS : (fun _ : World => True) w5 := trivial
          refine st_run (i := 1) (d := some 23) (v := v) (w' := w5) rfl (by rfl) (by have hc := vc5; go_simp) rfl hS ?_
          simp only [Act.put, List.setIfInBounds_toArray, List.set_cons_zero, List.set_cons_succ]
          refine hs_call (i := 3) (d := some 25) rfl (by kernel_rfl) (by rfl) (by go_simp; first | done | exact ⟨rfl, rfl⟩ | with_reducible rfl) rfl ?_
          refine (cg5).mono ?_
          rintro e' w6 ⟨rfl, s6, g6⟩
          have hS : (fun _ : World => True) w6 := trivial
          refine ⟨_, rfl, hS, ?_⟩
          simp only [Act.put, List.setIfInBounds_toArray, List.set_cons_zero, List.set_cons_succ]
          have hc6 := (ref_cell (o := 1) g6 hV5 (by omega)).trans vc5
          obtain ⟨g', c', w7, hr5, own7, b7⟩ := step_req (own19 own5 g6 (fun g hh => by cases hh; omega)) hul hone (Nat.le_trans hs5 g6.size) (by omega)
          have hS : (fun _ : World => True) (w6.alloc (.cells u.toArray 60)) := trivial
          refine hs_run (i := 4) (d := some 26) (v := .slice (some ⟨w6.heap.size, 0, none⟩) 1 1) (w' := (w6.alloc (.cells u.toArray 60))) rfl (by kernel_rfl) (by rfl) (by go_simp; try with_reducible rfl) rfl hS ?_
          simp only [Act.put, List.setIfInBounds_toArray, List.set_cons_zero, List.set_cons_succ]
          have hS : (fun _ : World => True) w7 := trivial
          refine hs_run (i := 5) (d := some 27) (v := (.slice (some ⟨g', 0, none⟩) (k + 1) c')) (w' := w7) rfl (by kernel_rfl) (by rfl) (exec_append rfl rfl rfl hr5) rfl hS ?_
          simp only [Act.put, List.setIfInBounds_toArray, List.set_cons_zero, List.set_cons_succ]
          refine hs_take (i := 6) (d := some 28) (v := ?_) rfl (by kernel_rfl) (by kernel_rfl) (by kernel_rfl) (by rfl) ?_ hS rfl ?_
          rotate_left
          · intro w' hw
            go_simp
            try with_reducible rfl
          simp only [Act.put, List.setIfInBounds_toArray, List.set_cons_zero, List.set_cons_succ]
          have hw8 := vset w6 w7 _ s6 g6 own7 b7
          have hst := vst w7 (there_below (there_gbR boxT5 g6 hV5 (by omega)) b7 (by omega))
          refine hs_store (i := 7) (w' := (w7.setCell ⟨V, 1, none⟩ (.slice (some ⟨g', 0, none⟩) (k + 1) c'))) rfl (by kernel_rfl) (by rfl) (exec_store rfl rfl rfl (hst _ _ _)) rfl trivial ?_
          refine hs_done (by kernel_rfl) ?_
          go_wp2
          go_roundw
          case rel => exact ⟨k + 1, by omega, by go_num, hw8⟩
          case measure => simp [intOf]; omega
        · refine st_call (i := 3) (d := some 25) rfl (by rfl) (by go_simp; first | done | exact ⟨rfl, rfl⟩ | with_reducible rfl) rfl ?_
          refine (cg5).mono ?_
          rintro e' w6 ⟨rfl, s6, g6⟩
          have hS : (fun _ : World => True) w6 := trivial
          refine ⟨_, rfl, hS, ?_⟩
          simp only [Act.put, List.setIfInBounds_toArray, List.set_cons_zero, List.set_cons_succ]
          have hc6 := (ref_cell (o := 1) g6 hV5 (by omega)).trans vc5
          obtain ⟨g', c', w7, hr5, own7, b7⟩ := step_req (own19 own5 g6 (fun g hh => by cases hh; omega)) hul hone (Nat.le_trans hs5 g6.size) (by omega)
          refine hs_fork (i := 1) (j := 4) (by kernel_rfl) ?_ ?_
          · have hS : (fun _ : World => True) w6 := trivial
            refine st_run (i := 1) (d := some 23) (v := v) (w' := w6) rfl (by rfl) (by have hc := hc6; go_simp) rfl hS ?_
            simp only [Act.put, List.setIfInBounds_toArray, List.set_cons_zero, List.set_cons_succ]
            have hS : (fun _ : World => True) (w6.alloc (.cells u.toArray 60)) := trivial
            refine hs_run (i := 4) (d := some 26) (v := .slice (some ⟨w6.heap.size, 0, none⟩) 1 1) (w' := (w6.alloc (.cells u.toArray 60))) rfl (by kernel_rfl) (by rfl) (by go_simp; try with_reducible rfl) rfl hS ?_
            simp only [Act.put, List.setIfInBounds_toArray, List.set_cons_zero, List.set_cons_succ]
            have hS : (fun _ : World => True) w7 := trivial
            refine hs_run (i := 5) (d := some 27) (v := (.slice (some ⟨g', 0, none⟩) (k + 1) c')) (w' := w7) rfl (by kernel_rfl) (by rfl) (exec_append rfl rfl rfl hr5) rfl hS ?_
            simp only [Act.put, List.setIfInBounds_toArray, List.set_cons_zero, List.set_cons_succ]
            refine hs_take (i := 6) (d := some 28) (v := ?_) rfl (by kernel_rfl) (by kernel_rfl) (by kernel_rfl) (by rfl) ?_ hS rfl ?_
            rotate_left
            · intro w' hw
              go_simp
              try with_reducible rfl
            simp only [Act.put, List.setIfInBounds_toArray, List.set_cons_zero, List.set_cons_succ]
            have hw8 := vset w6 w7 _ s6 g6 own7 b7
            have hst := vst w7 (there_below (there_gbR boxT5 g6 hV5 (by omega)) b7 (by omega))
            refine hs_store (i := 7) (w' := (w7.setCell ⟨V, 1, none⟩ (.slice (some ⟨g', 0, none⟩) (k + 1) c'))) rfl (by kernel_rfl) (by rfl) (exec_store rfl rfl rfl (hst _ _ _)) rfl trivial ?_
            refine hs_done (by kernel_rfl) ?_
            go_wp2
            go_roundw
            case rel => exact ⟨k + 1, by omega, by go_num, hw8⟩
            case measure => simp [intOf]; omega
          · have hS : (fun _ : World => True) (w6.alloc (.cells u.toArray 60)) := trivial
            refine st_run (i := 4) (d := some 26) (v := .slice (some ⟨w6.heap.size, 0, none⟩) 1 1) (w' := (w6.alloc (.cells u.toArray 60))) rfl (by rfl) (by go_simp; try with_reducible rfl) rfl hS ?_
            simp only [Act.put, List.setIfInBounds_toArray, List.set_cons_zero, List.set_cons_succ]
            have hc7 : (w6.alloc (.cells u.toArray 60)).cell? ⟨V, 1, none⟩ = some v := (((Below.refl w6.heap.size w6).alloc (Nat.le_refl _) _).cell (p := ⟨V, 1, none⟩) (Nat.lt_of_lt_of_le hV5 g6.size)).trans hc6
            have hS : (fun _ : World => True) (w6.alloc (.cells u.toArray 60)) := trivial
            refine hs_run (i := 1) (d := some 23) (v := v) (w' := (w6.alloc (.cells u.toArray 60))) rfl (by kernel_rfl) (by rfl) (by have hc := hc7; go_simp) rfl hS ?_
            simp only [Act.put, List.setIfInBounds_toArray, List.set_cons_zero, List.set_cons_succ]
            have hS : (fun _ : World => True) w7 := trivial
            refine hs_run (i := 5) (d := some 27) (v := (.slice (some ⟨g', 0, none⟩) (k + 1) c')) (w' := w7) rfl (by kernel_rfl) (by rfl) (exec_append rfl rfl rfl hr5) rfl hS ?_
            simp only [Act.put, List.setIfInBounds_toArray, List.set_cons_zero, List.set_cons_succ]
            refine hs_take (i := 6) (d := some 28) (v := ?_) rfl (by kernel_rfl) (by kernel_rfl) (by kernel_rfl) (by rfl) ?_ hS rfl ?_
            rotate_left
            · intro w' hw
              go_simp
              try with_reducible rfl
            simp only [Act.put, List.setIfInBounds_toArray, List.set_cons_zero, List.set_cons_succ]
            have hw8 := vset w6 w7 _ s6 g6 own7 b7
            have hst := vst w7 (there_below (there_gbR boxT5 g6 hV5 (by omega)) b7 (by omega))
            refine hs_store (i := 7) (w' := (w7.setCell ⟨V, 1, none⟩ (.slice (some ⟨g', 0, none⟩) (k + 1) c'))) rfl (by kernel_rfl) (by rfl) (exec_store rfl rfl rfl (hst _ _ _)) rfl trivial ?_
            refine hs_done (by kernel_rfl) ?_
            go_wp2
            go_roundw
            case rel => exact ⟨k + 1, by omega, by go_num, hw8⟩
            case measure => simp [intOf]; omega
      · obtain rfl : k = K := by omega
        have k1 : ¬ (k : Int) + 1 < (k : Int) + 1 := by omega
        have HA := hide (getRs_ok (rest := x2) (e := x3) HB.out k)
        have HLen := hide (getRs_length k x2 x3)
        have hown := hL.own
        obtain ⟨aa, capp, rfl, hc1, hc2, hrow, hlo⟩ := own_reqs (rs := (getRs k x2 x3).1) (by rw [HLen.out]; exact hown) HA.out (by rw [HLen.out]; unfold maxLen; omega)
        rw [HLen.out] at hc1
        have hbx := hL.box
        rw [HLen.out] at hbx
        have c2 := hL.st.cell2
        have hst := hL.st
        have hgb := hL.gb
        have hres := hL.res
        clear hL hown HVS
        obtain ⟨er, her⟩ : ∃ er, Hid ((getRs k x2 x3).2.2 = er) := ⟨_, hide rfl⟩
        rw [her.out] at c2 hst HG
        by_cases he : er = 0
        · have b2 : (er == 0) = true := by simpa using he
          rw [if_pos he] at HG
          have hN := hres
          have hRr := World.rangeAt_setCells_same wr w.heap.size 0 [.bool false, .slice aa k capp] hN
          have hg9 : wr.grownBy (wr.setCells w.heap.size 0 [.bool false, .slice aa k capp]) (some w.heap.size) := gb_setsR wr w.heap.size _ 0
          have h9 := hst.gb hg9 (.inr hRw)
          have hgw9 := gb_onR hgb (below_sets (Nat.le_refl w.heap.size) [.bool false, .slice aa k capp] 0 wr (Below.refl w.heap.size wr)) (Nat.le_refl _)
          have hrs := run_loadVar_mid (P := Tryd.prog) (wr.setCells w.heap.size 0 [.bool false, .slice aa k capp]) w.heap.size 0 24 [.bool false, .slice aa k capp] _ hRr Tryd.underlying24 rfl iszB
          have HF : Hid (∃ a cap, Ending.returned (.agg #[.bool false, .slice aa k capp]) = .returned (batV G.q a G.rs.length cap) ∧ G.rs.length ≤ cap ∧ cap ≤ maxLen ∧ ReqsAt (wr.setCells w.heap.size 0 [.bool false, .slice aa k capp]) a G.rs ∧ (∀ x, a = some x → w.heap.size ≤ x.block) ∧ RSt D (wr.setCells w.heap.size 0 [.bool false, .slice aa k capp]) R G.rest G.err ∧ w.grownBy (wr.setCells w.heap.size 0 [.bool false, .slice aa k capp]) (some R)) := hide (by
            rw [← HG.out]
            refine ⟨aa, capp, ?_, ?_, hc2, hrow.gb1 hg9 (fun x hx => by have := hlo x hx; omega), fun x hx => by have := hlo x hx; omega, h9, hgw9⟩
            · simp only [HLen.out]; rfl
            · simp only [HLen.out]; exact hc1
          )
          go_upto_region 13 with fail
          try simp only [Act.put]
          refine wp_region_list ?_
          refine wpList_load_mid rfl 24 _ rfl _ _ rfl [.bool false, .slice aa k capp] _ hbx Tryd.underlying24 rfl iszB ?_
          refine wpList_store_mid rfl 24 _ _ rfl _ _ #[.bool false, .slice aa k capp] rfl rfl hN iszB (by simp [Value.oneCell']) ?_
          go_wp2
          exact bodyPost_ret (v := .agg #[.bool false, .slice aa k capp]) (by simp [results, Tryd.results28, asAddr, hrs]) rfl HF.out
        · have b2 : (er == 0) = false := by simpa using he
          rw [if_neg he] at HG
          have hN := hres
          have hRr := World.rangeAt_setCells_same wr w.heap.size 0 [.bool false, .slice none 0 0] hN
          have hg9 : wr.grownBy (wr.setCells w.heap.size 0 [.bool false, .slice none 0 0]) (some w.heap.size) := gb_setsR wr w.heap.size _ 0
          have h9 := hst.gb hg9 (.inr hRw)
          have hgw9 := gb_onR hgb (below_sets (Nat.le_refl w.heap.size) [.bool false, .slice none 0 0] 0 wr (Below.refl w.heap.size wr)) (Nat.le_refl _)
          have hrs := run_loadVar_mid (P := Tryd.prog) (wr.setCells w.heap.size 0 [.bool false, .slice none 0 0]) w.heap.size 0 24 [.bool false, .slice none 0 0] _ hRr Tryd.underlying24 rfl iszB
          have HF : Hid (∃ a cap, Ending.returned (.agg #[.bool false, .slice none 0 0]) = .returned (batV G.q a G.rs.length cap) ∧ G.rs.length ≤ cap ∧ cap ≤ maxLen ∧ ReqsAt (wr.setCells w.heap.size 0 [.bool false, .slice none 0 0]) a G.rs ∧ (∀ x, a = some x → w.heap.size ≤ x.block) ∧ RSt D (wr.setCells w.heap.size 0 [.bool false, .slice none 0 0]) R G.rest G.err ∧ w.grownBy (wr.setCells w.heap.size 0 [.bool false, .slice none 0 0]) (some R)) := hide (by
            rw [← HG.out]
            exact ⟨none, 0, rfl, by simp, by unfold maxLen; omega, ReqsAt.none, (fun x hx => by cases hx), h9, hgw9⟩
          )
          go_upto_region 12 with fail
          try simp only [Act.put]
          refine wp_region_list ?_
          refine wpList_step fun K hK => ?_
          go_simp
          refine hK _ _ ?_
          clear hK K
          refine wpList_store_mid rfl 24 _ _ rfl _ _ #[.bool false, .slice none 0 0] rfl rfl hN iszB (by simp [Value.oneCell']) ?_
          go_wp2
          exact bodyPost_ret (v := .agg #[.bool false, .slice none 0 0]) (by simp [results, Tryd.results28, asAddr, hrs]) rfl HF.out
end Go.Proofs.YtinpbnkmpplkiaaDoor
namespace Go.Proofs.YtinpbnkmpplkiaaDoor
open Go.RowKit
open Sha Tal
theorem one_bat3 (w : World) (q : Bool) (a : Option Addr) (cap : Nat) (rs : List Rq) (h : (Bat.mk q a cap rs).at w) :
    BatsAt (w.alloc (.cells #[.bool q, .slice a rs.length cap] 24)) w.heap.size [⟨q, a, cap, rs⟩] := by
  have hb : Below w.heap.size w (w.alloc (.cells #[.bool q, .slice a rs.length cap] 24)) := (Below.refl _ _).alloc (Nat.le_refl _) _
  refine ⟨by simp, fun x hx => ?_, by simp, range_new w #[.bool q, .slice a rs.length cap] 24⟩
  obtain rfl := List.mem_singleton.1 hx
  exact h.below hb
theorem wtR_le3 : ∀ (rs : List Rq), rs.length * 20 ≤ wtR rs ∧ ∀ r ∈ rs, r.s.size ≤ wtR rs
  | [] => ⟨by simp [wtR], by simp⟩
  | r :: rs => by
    have ih := wtR_le3 rs
    have e : wtR (r :: rs) = 20 + r.s.size + wtR rs := by simp [wtR]
    refine ⟨by rw [e]; simp; omega, fun x hx => ?_⟩
    rw [e]
    rcases List.mem_cons.1 hx with rfl | hx
    · omega
    · have := ih.2 x hx; omega
theorem wt3 {q : Bool} {a : Option Addr} {cap : Nat} {rs : List Rq} (h : wt [⟨q, a, cap, rs⟩] ≤ 4000) : rs.length ≤ 200 ∧ ∀ r ∈ rs, r.s.size ≤ 4000 := by
  have e : wt [⟨q, a, cap, rs⟩] = 5 + wtR rs := by simp [wt]
  rw [e] at h
  have h1 := wtR_le3 rs
  exact ⟨by omega, fun r hr => by have := h1.2 r hr; omega⟩
theorem BatBox.drew3 {w : World} {b : Nat} {q : Bool} {a : Option Addr} {n cap : Nat} (h : BatBox w b q a n cap) : BatBox w.drew b q a n cap :=
  ⟨h.1, h.2.1, h.2.2.1, (World.rangeAt_drew _ _ _ _).2 h.2.2.2⟩
theorem BatBox.gb {w w' : World} {b R : Nat} {q : Bool} {a : Option Addr} {n cap : Nat} (h : BatBox w b q a n cap) (hg : w.grownBy w' (some R)) (hne : b ≠ R) : BatBox w' b q a n cap :=
  ⟨Nat.lt_of_lt_of_le h.1 hg.size, (ref_cell hg h.1 hne).trans h.2.1, (ref_cell hg h.1 hne).trans h.2.2.1, range_gbR h.2.2.2 hg h.1 hne⟩
theorem plain_len {q : Bool} {rs : List Rq} (h : plainB q rs) (ho : ∀ r ∈ rs, r.ok) : (batL q rs).length ≤ 1000 := by
  have hf := h.few
  cases q with
  | true => have := putL_le 0 (by omega); simp only [batL, if_true]; omega
  | false =>
    have k1 := putL_le ((rs.length : Int) + 1) (by omega)
    have key : ∀ (l : List Rq), (∀ r ∈ l, r.plain) → (∀ r ∈ l, r.ok) → (l.flatMap Rq.bytes).length ≤ l.length * 150 := by
      intro l
      induction l with
      | nil => intro _ _; simp
      | cons r l ih =>
        intro h1 h2
        have i1 := ih (fun x hx => h1 x (by simp [hx])) (fun x hx => h2 x (by simp [hx]))
        have hp := h1 r (by simp)
        have ho := h2 r (by simp)
        have g1 := putL_le r.c ho.ch
        have g2 := putL_le r.n ho.nh
        have g3 := putL_le (r.s.size : Int) (by have := hp.s1; omega)
        have g4 := ho.tl
        have g5 := hp.s1
        have : r.bytes.length ≤ 150 := by
          simp only [Rq.bytes, textL, List.length_append, strL_length]
          omega
        simp only [List.flatMap_cons, List.length_append, List.length_cons]
        omega
    have k2 := key rs h.all ho
    simp only [batL, Bool.false_eq_true, if_false, List.length_append]
    omega
theorem same_true {q : Bool} {rs : List Rq} {e : Ending} {p : Prop} (h : ((e = .returned (.bool true) ∧ eqBat q rs q rs) ∨ (e = .returned (.bool false) ∧ ¬ eqBat q rs q rs)) ∧ p) : e = .returned (.bool true) ∧ p := by
  rcases h with ⟨⟨h1, _⟩ | ⟨_, h2⟩, h3⟩
  · exact ⟨h1, h3⟩
  · exact absurd ⟨rfl, rfl⟩ h2
set_option maxRecDepth 100000 in
set_option maxHeartbeats 4000000 in
theorem back_walk (q : Bool) (a : Option Addr) (cap : Nat) (rs : List Rq) (ta : Option Addr) (tcap : Nat) (zs : List Int) (w : World) (hG : Glob w) (h : ReqsAt w a rs) (hc : rs.length ≤ cap) (hm : cap ≤ maxLen) (ht : RowAt w ta zs) :
    Calls Tryd.prog 6 #[batV q a rs.length cap, .slice ta zs.length tcap] w fun e w' => e = .returned (.bool true) ∧ Below w.heap.size w w' := by
  obtain ⟨i0, hi, hz0, hz1, hz2⟩ := info_parts info8
  have hml := ht.1
  unfold maxLen at hml
  have hall := h.2.1
  have cpl := fun w0 h0 => plain_any q a cap rs w0 h0
  have cpt := fun w0 h0 hn hs => bput_any none 0 [] q a cap rs w0 (nil_row w0) (by simp) h0 hn hs
  simp only [List.nil_append, List.length_nil] at cpt
  unfold batV at cpl cpt ⊢
  have hB1 : Below w.heap.size w (w.alloc (.cells #[.bool q, .slice a rs.length cap] 24)) := (Below.refl _ _).alloc (Nat.le_refl _) _
  have hbx := BatBox.mk w q a rs.length cap
  have hib := batI q a rs.length cap
  go_enter Tryd.func6, Tryd.ntmps6
  go_upto_region 1 with fail
  go_name_world w1 hw1
  rw [hw1] at hB1 hbx
  clear hw1
  obtain ⟨X, hXe⟩ : ∃ X, Hid (w.heap.size = X) := ⟨_, hide rfl⟩
  rw [hXe.out] at hbx ⊢
  have hL := one_bat3 w1 q a cap rs ⟨h.below hB1, hc, hm⟩
  have hB2' : Below w1.heap.size w1 (w1.alloc (.cells #[.bool q, .slice a rs.length cap] 24)) := (Below.refl _ _).alloc (Nat.le_refl _) _
  have hB2 := hB1.trans (hB2'.mono hB1.size)
  have hbx2 := hbx.below hB2'
  have cl := light_any w1.heap.size 1 _ _ hL
  try simp only [Act.put]
  refine wp_region_list ?_
  refine wpList_load_mid rfl 24 _ rfl _ _ rfl [.bool q, .slice a rs.length cap] _ hbx.2.2.2 Tryd.underlying24 rfl hib ?_
  clear hbx hL
  simp only [List.length_cons, List.length_nil, Nat.zero_add] at cl
  go_wp2_with fail
  refine cl.mono ?_
  rintro e w3 hcase
  clear cl
  generalize w1.alloc (.cells #[.bool q, .slice a rs.length cap] 24) = w2 at *
  rcases hcase with ⟨rfl, hw3⟩ | ⟨rfl, hw3, hwt⟩
  · have hB3 := hB2.trans (hw3.mono hB2.size)
    go_wp2_with fail
    refine (lives7_any w3 (hG.below hB3)).mono ?_
    rintro e wz ⟨rfl, hwz⟩
    go_wp2_with fail
    go_ret
    exact ⟨rfl, (hB3).trans (hwz.mono (hB3).size)⟩
  have hB3 := hB2.trans (hw3.mono hB2.size)
  have hbx3 := hbx2.below hw3
  clear hbx2 hB2' hB2 hw3
  obtain ⟨hn, hs⟩ := wt3 hwt
  clear hwt
  by_cases hlong : 2000 < zs.length
  · have hli : (2000 : Int) < zs.length := by omega
    go_wp2_with fail
    refine (lives7_any w3 (hG.below hB3)).mono ?_
    rintro e wz ⟨rfl, hwz⟩
    go_wp2_with fail
    go_ret
    exact ⟨rfl, (hB3).trans (hwz.mono (hB3).size)⟩
  have hli : ¬ (2000 : Int) < zs.length := by omega
  obtain ⟨_, x0, x1, _⟩ := id hbx3
  go_wp2_with fail
  refine (cpl w3 (h.below hB3)).mono ?_
  rintro e w4 hcase
  clear cpl x0 x1
  rcases hcase with ⟨rfl, hw4, hpl⟩ | ⟨rfl, hw4⟩
  rotate_left
  · have hB4 := hB3.trans (hw4.mono hB3.size)
    go_wp2_with fail
    refine (lives7_any w4 (hG.below hB4)).mono ?_
    rintro e wz ⟨rfl, hwz⟩
    go_wp2_with fail
    go_ret
    exact ⟨rfl, (hB4).trans (hwz.mono (hB4).size)⟩
  have hB4 := hB3.trans (hw4.mono hB3.size)
  have hbx4 := hbx3.below hw4
  have lL := plain_len hpl hall
  have hbk := getB_back q rs zs hpl hall
  have cp4 := cpt w4 (h.below hB4) hn hs
  obtain ⟨L, hLe⟩ : ∃ L, Hid (batL q rs = L) := ⟨_, hide rfl⟩
  rw [hLe.out] at lL hbk cp4
  have HBK := hide hbk
  clear hbk hLe hpl cpt hB3 hbx3 hw4
  go_upto_region 3 with fail
  try simp only [Act.put]
  refine wp_region_list ?_
  refine wpList_load_mid rfl 24 _ rfl _ _ rfl [.bool q, .slice a rs.length cap] _ hbx4.2.2.2 Tryd.underlying24 rfl hib ?_
  go_wp2_with fail
  refine cp4.mono ?_
  rintro e w5 ⟨v5, rfl, m5, hw5⟩
  have hB5 := hB4.trans (hw5.mono hB4.size)
  have mF := m5.2
  have own5 := m5.1
  obtain ⟨a5, cap5, rfl, _, _, row5⟩ := m5.rowAt (by unfold maxLen; omega)
  clear cp4 m5 row5
  go_wp2_with (at_builtin; refine wpList_append_own_src _ rfl _ _ 39 39 rfl w4.heap.size 5 i0 (.int .u8 0) 1 1 Tryd.underlying39 hi hz0 hz1 hz2 rfl _ L.length (v8 L) rfl own5 (.slice ta zs.length tcap) zs.length (v8 zs) rfl ((ht.below hB5).src tcap) ?c1 ?c2 ?c3 ?_)
  case c1 => unfold maxLen; omega
  case c2 => omega
  case c3 => exact hw5.size
  intro v6 w6 hown6 hgrow6
  have hb6 := below_grown hw5 hw5.size own5 hgrow6
  have hbx6 := hbx4.below hb6
  have hB6 := hB4.trans (hb6.mono hB4.size)
  obtain ⟨FT, hFT⟩ : ∃ FT, Hid (L ++ zs = FT) := ⟨_, hide rfl⟩
  have lFT : FT.length = L.length + zs.length := by rw [← hFT.out, List.length_append]
  rw [hFT.out] at HBK
  have M6 : Mine w6 w4.heap.size v6 FT := by
    rw [← hFT.out]
    exact Mine.mk' (L ++ zs) hown6 (by simp) (by simp [v8]) (fun z hz => by rcases List.mem_append.1 hz with k | k; exact mF z k; exact ht.2.1 z k)
  obtain ⟨a6, cap6, rfl, _, _, row6⟩ := M6.rowAt (by unfold maxLen; omega)
  have cr := read_any a6 cap6 FT w6 row6 (by omega)
  have hFl : FT.length ≤ 5000 := by omega
  have hbs : Bs FT := row6.2.1
  rw [lFT] at cr
  clear hown6 hgrow6 own5 M6 row6 hw5 hb6 hbx4 hB4 hFT hB5 mF
  go_wp2_with fail
  refine cr.mono ?_
  rintro e w7 ⟨R, rfl, hRw, sR, hb7⟩
  have hbx7 := hbx6.below hb7
  have hB7 := hB6.trans (hb7.mono hB6.size)
  have hXR : X < R := Nat.lt_of_lt_of_le hbx6.1 hRw
  have hwR : w.heap.size ≤ R := Nat.le_trans hB6.size hRw
  clear cr hbx6 hB6 hb7 hRw lFT
  go_wp2_with fail
  obtain ⟨w8, hw8⟩ : ∃ w8, w7.drew = w8 := ⟨_, rfl⟩
  refine hs_begin (S := (fun W => BatBox W X q a rs.length cap ∧ Below w.heap.size w W)) 20 rfl (by kernel_rfl) ?_
  have hS : (fun W => BatBox W X q a rs.length cap ∧ Below w.heap.size w W) w8 := by rw [← hw8]; exact ⟨hbx7.drew3, hB7.drew⟩
  have s8 : St w8 R FT 0 := by rw [← hw8]; exact sR.below (Below.refl _ _).drew
  rw [hw8]
  clear hw8 hbx7 hB7 sR
  have cg := bget_any R FT 0 w8 s8 hFl (fun _ => hbs)
  rw [HBK.out] at cg
  unfold batV at cg
  simp only at cg
  refine hs_take (i := 0) (d := some 26) (v := ?_) rfl (by kernel_rfl) (by kernel_rfl) (by kernel_rfl) (by rfl) ?_ hS rfl ?_
  rotate_left
  · intro w' hw
    go_simp
    try with_reducible rfl
  simp only [Act.put, List.setIfInBounds_toArray, List.set_cons_zero, List.set_cons_succ]
  refine hs_take (i := 2) (d := some 28) (v := .agg #[.bool q, .slice a rs.length cap]) rfl (by kernel_rfl) (by kernel_rfl) (by kernel_rfl) (by rfl) (fun w' hw => exec_load rfl rfl (run_loadVar_mid (P := Tryd.prog) w' X 0 24 [.bool q, .slice a rs.length cap] _ hw.1.2.2.2 Tryd.underlying24 rfl hib)) hS rfl ?_
  simp only [Act.put, List.setIfInBounds_toArray, List.set_cons_zero, List.set_cons_succ]
  refine hs_call (i := 1) (d := some 27) rfl (by kernel_rfl) (by rfl) (by go_simp; first | done | exact ⟨rfl, rfl⟩ | with_reducible rfl) rfl ?_
  refine (cg).mono ?_
  rintro e' w9 ⟨a9, cap9, rfl, hc9, hm9, row9, hlo9, s9, g9⟩
  have hS : (fun W => BatBox W X q a rs.length cap ∧ Below w.heap.size w W) w9 := ⟨hS.1.gb g9 (by omega), gb_belowR hS.2 g9 (by omega) hS.2.size⟩
  refine ⟨_, rfl, hS, ?_⟩
  simp only [Act.put, List.setIfInBounds_toArray, List.set_cons_zero, List.set_cons_succ]
  have csm := (refBSame_any q a9 cap9 rs q a cap rs w9 row9 (h.below hS.2)).mono (fun e w' hh => same_true hh)
  unfold batV at csm
  refine hs_call (i := 3) (d := some 29) rfl (by kernel_rfl) (by rfl) (by go_simp; first | done | exact ⟨rfl, rfl⟩ | with_reducible rfl) rfl ?_
  refine (csm).mono ?_
  rintro e' w10 ⟨rfl, hw10⟩
  have hS : (fun W => BatBox W X q a rs.length cap ∧ Below w.heap.size w W) w10 := ⟨hS.1.below hw10, hS.2.trans (hw10.mono hS.2.size)⟩
  refine ⟨_, rfl, hS, ?_⟩
  simp only [Act.put, List.setIfInBounds_toArray, List.set_cons_zero, List.set_cons_succ]
  have s10 := s9.below hw10
  refine hs_take (i := 4) (d := some 30) (v := ?_) rfl (by kernel_rfl) (by kernel_rfl) (by kernel_rfl) (by rfl) ?_ hS rfl ?_
  rotate_left
  · intro w' hw
    go_simp
    try with_reducible rfl
  simp only [Act.put, List.setIfInBounds_toArray, List.set_cons_zero, List.set_cons_succ]
  refine hs_take (i := 5) (d := some 31) (v := ?_) rfl (by kernel_rfl) (by kernel_rfl) (by kernel_rfl) (by rfl) ?_ hS rfl ?_
  rotate_left
  · intro w' hw
    go_simp
    try with_reducible rfl
  simp only [Act.put, List.setIfInBounds_toArray, List.set_cons_zero, List.set_cons_succ]
  refine hs_call (i := 6) (d := some 32) rfl (by kernel_rfl) (by rfl) (by go_simp; first | done | exact ⟨rfl, rfl⟩ | with_reducible rfl) rfl ?_
  refine (err_made R 0 w10 s10.1).mono ?_
  rintro e' w11 ⟨rfl, hx⟩
  have hS : (fun W => BatBox W X q a rs.length cap ∧ Below w.heap.size w W) w11 := by rw [hx]; exact hS
  refine ⟨_, rfl, hS, ?_⟩
  simp only [Act.put, List.setIfInBounds_toArray, List.set_cons_zero, List.set_cons_succ]
  obtain rfl := hx.symm
  refine hs_take (i := 7) (d := some 33) (v := .bool true) rfl (by kernel_rfl) (by kernel_rfl) (by kernel_rfl) (by rfl) (fun w' hw => by go_simp) hS rfl ?_
  simp only [Act.put, List.setIfInBounds_toArray, List.set_cons_zero, List.set_cons_succ]
  refine hs_take (i := 8) (d := some 34) (v := .bool true) rfl (by kernel_rfl) (by kernel_rfl) (by kernel_rfl) (by rfl) (fun w' hw => by go_simp) hS rfl ?_
  simp only [Act.put, List.setIfInBounds_toArray, List.set_cons_zero, List.set_cons_succ]
  refine hs_take (i := 9) (d := some 35) (v := ?_) rfl (by kernel_rfl) (by kernel_rfl) (by kernel_rfl) (by rfl) ?_ hS rfl ?_
  rotate_left
  · intro w' hw
    go_simp
    try with_reducible rfl
  simp only [Act.put, List.setIfInBounds_toArray, List.set_cons_zero, List.set_cons_succ]
  refine hs_take (i := 10) (d := some 36) (v := ?_) rfl (by kernel_rfl) (by kernel_rfl) (by kernel_rfl) (by rfl) ?_ hS rfl ?_
  rotate_left
  · intro w' hw
    go_simp
    try with_reducible rfl
  simp only [Act.put, List.setIfInBounds_toArray, List.set_cons_zero, List.set_cons_succ]
  refine hs_take (i := 12) (d := some 38) (v := ?_) rfl (by kernel_rfl) (by kernel_rfl) (by kernel_rfl) (by rfl) ?_ hS rfl ?_
  rotate_left
  · intro w' hw
    go_simp
    try with_reducible rfl
  simp only [Act.put, List.setIfInBounds_toArray, List.set_cons_zero, List.set_cons_succ]
  refine hs_take (i := 13) (d := some 39) (v := ?_) rfl (by kernel_rfl) (by kernel_rfl) (by kernel_rfl) (by rfl) ?_ hS rfl ?_
  rotate_left
  · intro w' hw
    go_simp
    try with_reducible rfl
  simp only [Act.put, List.setIfInBounds_toArray, List.set_cons_zero, List.set_cons_succ]
  have cl := leftR_any R zs 0 w10 s10
  rw [if_pos rfl] at cl
  refine hs_call (i := 11) (d := some 37) rfl (by kernel_rfl) (by rfl) (by go_simp; first | done | exact ⟨rfl, rfl⟩ | with_reducible rfl) rfl ?_
  refine (cl).mono ?_
  rintro e' w12 ⟨rfl, hx⟩
  have hS : (fun W => BatBox W X q a rs.length cap ∧ Below w.heap.size w W) w12 := by rw [hx]; exact hS
  refine ⟨_, rfl, hS, ?_⟩
  simp only [Act.put, List.setIfInBounds_toArray, List.set_cons_zero, List.set_cons_succ]
  obtain rfl := hx.symm
  refine hs_take (i := 14) (d := some 40) (v := .bool true) rfl (by kernel_rfl) (by kernel_rfl) (by kernel_rfl) (by rfl) (fun w' hw => by go_simp) hS rfl ?_
  simp only [Act.put, List.setIfInBounds_toArray, List.set_cons_zero, List.set_cons_succ]
  refine hs_take (i := 15) (d := some 41) (v := .bool true) rfl (by kernel_rfl) (by kernel_rfl) (by kernel_rfl) (by rfl) (fun w' hw => by go_simp) hS rfl ?_
  simp only [Act.put, List.setIfInBounds_toArray, List.set_cons_zero, List.set_cons_succ]
  refine hs_take (i := 16) (d := some 42) (v := ?_) rfl (by kernel_rfl) (by kernel_rfl) (by kernel_rfl) (by rfl) ?_ hS rfl ?_
  rotate_left
  · intro w' hw
    go_simp
    try with_reducible rfl
  simp only [Act.put, List.setIfInBounds_toArray, List.set_cons_zero, List.set_cons_succ]
  refine hs_call (i := 17) (d := some 43) rfl (by kernel_rfl) (by rfl) (by go_simp; first | done | exact ⟨rfl, rfl⟩ | with_reducible rfl) rfl ?_
  refine (lives7_any w10 (hG.below hS.2)).mono ?_
  rintro e' w13 ⟨rfl, hw13⟩
  have hS : (fun W => BatBox W X q a rs.length cap ∧ Below w.heap.size w W) w13 := ⟨hS.1.below hw13, hS.2.trans (hw13.mono hS.2.size)⟩
  refine ⟨_, rfl, hS, ?_⟩
  simp only [Act.put, List.setIfInBounds_toArray, List.set_cons_zero, List.set_cons_succ]
  refine hs_take (i := 18) (d := some 44) (v := .bool true) rfl (by kernel_rfl) (by kernel_rfl) (by kernel_rfl) (by rfl) (fun w' hw => by go_simp) hS rfl ?_
  simp only [Act.put, List.setIfInBounds_toArray, List.set_cons_zero, List.set_cons_succ]
  refine hs_take (i := 19) (d := some 4) (v := ?_) rfl (by kernel_rfl) (by kernel_rfl) (by kernel_rfl) (by rfl) ?_ hS rfl ?_
  rotate_left
  · intro w' hw
    go_simp
    try with_reducible rfl
  simp only [Act.put, List.setIfInBounds_toArray, List.set_cons_zero, List.set_cons_succ]
  refine hs_done (by kernel_rfl) ?_
  have hfin := hS.2
  go_wp2_with fail
  go_ret
  exact ⟨rfl, hfin⟩
end Go.Proofs.YtinpbnkmpplkiaaDoor
namespace Go.Proofs.YtinpbnkmpplkiaaDoor
open Go.RowKit
open Sha Tal
section
variable {P : Program} {ops : Array Oper} {Q : Exit → Act → World → Prop}
theorem hs_more5 {S S' : World → Prop} (h : ∀ w, S' w → S w) : ∀ (fuel : Nat) (listed : Array Bool) (a : Act) (w : World), HeldS P ops Q S' fuel listed a w → HeldS P ops Q S fuel listed a w
  | 0, _, _, _, k => k
  | fuel + 1, _, _, _, k => ⟨k.1, fun i hi => wpOp_mono (fun a' w' k' => ⟨h w' k'.1, hs_more5 h fuel _ a' w' k'.2⟩) (k.2 i hi)⟩
end
theorem below_drewN5 {n : Nat} {a w : World} (h : Below n a w) (k : Nat) : Below n a (w.drewN k) := ⟨h.os, h.tape, h.output, h.size, h.block⟩
/-- what the last region keeps: the law's batch; bytes that were laid; the error of the document's reader -/
def KB (w : World) (X : Nat) (q : Bool) (a : Option Addr) (n cap : Nat) (rows : List (Option Addr)) (F : List Int) (es : List (Nat × Int)) (W : World) : Prop :=
  (BatBox W X q a n cap ∧ Below w.heap.size w W) ∧ (∀ a ∈ rows, RowAt W a F) ∧ (∀ x ∈ es, W.cell? ⟨x.1, 2, none⟩ = some (.int .i64 x.2))
section
variable {w : World} {X : Nat} {q : Bool} {a : Option Addr} {n cap : Nat} {rows rows' : List (Option Addr)} {F : List Int} {es es' : List (Nat × Int)} {W W' : World}
theorem KB.on (h : KB w X q a n cap rows F es W) (hb : Below W.heap.size W W') : KB w X q a n cap rows F es W' :=
  ⟨⟨h.1.1.below hb, h.1.2.trans (hb.mono h.1.2.size)⟩, fun a ha => (h.2.1 a ha).below hb, fun x hx => (hb.cell (p := ⟨x.1, 2, none⟩) (World.block_lt_of_cell? W _ (h.2.2 x hx))).trans (h.2.2 x hx)⟩
theorem KB.less (h : KB w X q a n cap rows' F es' W) (hr : ∀ a ∈ rows, a ∈ rows') (hq : ∀ x ∈ es, x ∈ es') : KB w X q a n cap rows F es W :=
  ⟨h.1, fun a ha => h.2.1 a (hr a ha), fun x hx => h.2.2 x (hq x hx)⟩
theorem KB.gb {R : Nat} (h : KB w X q a n cap rows F [] W) (hg : W.grownBy W' (some R)) (hX : X ≠ R) (hR : w.heap.size ≤ R) (hne : ∀ a ∈ rows, ∀ x, a = some x → x.block ≠ R) : KB w X q a n cap rows F [] W' :=
  ⟨⟨h.1.1.gb hg hX, gb_belowR h.1.2 hg hR h.1.2.size⟩, fun a ha => (h.2.1 a ha).gb hg (.inr (hne a ha)), fun x hx => absurd hx (by simp)⟩
end
theorem rows_ne {a b : Option Addr} {A B R : Nat} (h1 : ∀ x, a = some x → A ≤ x.block) (h2 : ∀ x, b = some x → B ≤ x.block) (hA : R < A) (hB : R < B) : ∀ c ∈ [a, b], ∀ x, c = some x → x.block ≠ R := by
  intro c hc x hx
  rcases List.mem_cons.1 hc with rfl | hc
  · have := h1 x hx
    omega
  · obtain rfl := List.mem_singleton.1 hc
    have := h2 x hx
    omega
theorem mine_lo5 {w : World} {D n cap : Nat} {a : Option Addr} {zs : List Int} (h : Mine w D (.slice a n cap) zs) : ∀ x, a = some x → D ≤ x.block := by
  intro x hx
  subst hx
  rcases h.1.2 with ⟨hv, _⟩ | ⟨g, cp, cur, hv, hg, _⟩
  · cases hv
  · injection hv with hv _ _
    injection hv with hv
    subst hv
    exact hg
set_option maxRecDepth 100000 in
set_option maxHeartbeats 4000000 in
theorem reads_walk (ta : Option Addr) (tcap : Nat) (zs : List Int) (q : Bool) (a : Option Addr) (cap : Nat) (rs : List Rq) (w : World) (hG : Glob w) (ht : RowAt w ta zs) (h : ReqsAt w a rs) (hc : rs.length ≤ cap) (hm : cap ≤ maxLen) :
    Calls Tryd.prog 5 #[.slice ta zs.length tcap, batV q a rs.length cap] w fun e w' => e = .returned (.bool true) ∧ Below w.heap.size w w' := by
  have hml := ht.1
  unfold maxLen at hml
  have hbs : Bs zs := ht.2.1
  unfold batV
  have hB1 : Below w.heap.size w (w.alloc (.cells #[.bool q, .slice a rs.length cap] 24)) := (Below.refl _ _).alloc (Nat.le_refl _) _
  have hbx := BatBox.mk w q a rs.length cap
  have hib := batI q a rs.length cap
  go_enter Tryd.func5, Tryd.ntmps5
  go_upto_region 1 with fail
  go_name_world w1 hw1
  rw [hw1] at hB1 hbx
  clear hw1
  obtain ⟨X, hXe⟩ : ∃ X, Hid (w.heap.size = X) := ⟨_, hide rfl⟩
  rw [hXe.out] at hbx ⊢
  by_cases hlong : 2000 < zs.length
  · have hli : (2000 : Int) < zs.length := by omega
    go_wp2_with fail
    refine (lives7_any w1 (hG.below hB1)).mono ?_
    rintro e wz ⟨rfl, hwz⟩
    go_wp2_with fail
    go_ret
    exact ⟨rfl, (hB1).trans (hwz.mono (hB1).size)⟩
  have hli : ¬ (2000 : Int) < zs.length := by omega
  have hL := one_bat3 w1 q a cap rs ⟨h.below hB1, hc, hm⟩
  have hB2' : Below w1.heap.size w1 (w1.alloc (.cells #[.bool q, .slice a rs.length cap] 24)) := (Below.refl _ _).alloc (Nat.le_refl _) _
  have hB2 := hB1.trans (hB2'.mono hB1.size)
  have hbx2 := hbx.below hB2'
  have cl := light_any w1.heap.size 1 _ _ hL
  simp only [List.length_cons, List.length_nil, Nat.zero_add] at cl
  obtain ⟨_, x0, x1, _⟩ := id hbx
  clear hL
  go_wp2_with fail
  refine cl.mono ?_
  rintro e w3 hcase
  clear cl x0 x1 hbx
  generalize w1.alloc (.cells #[.bool q, .slice a rs.length cap] 24) = w2 at *
  rcases hcase with ⟨rfl, hw3⟩ | ⟨rfl, hw3, hwt⟩
  · have hB3 := hB2.trans (hw3.mono hB2.size)
    go_wp2_with fail
    refine (lives7_any w3 (hG.below hB3)).mono ?_
    rintro e wz ⟨rfl, hwz⟩
    go_wp2_with fail
    go_ret
    exact ⟨rfl, (hB3).trans (hwz.mono (hB3).size)⟩
  have hB3 := hB2.trans (hw3.mono hB2.size)
  have hbx3 := hbx2.below hw3
  clear hbx2 hB2' hB2 hw3
  obtain ⟨hn, hs⟩ := wt3 hwt
  clear hwt
  have cr := read_any ta tcap zs w3 (ht.below hB3) (by omega)
  go_wp2_with fail
  refine cr.mono ?_
  rintro e w4 ⟨R, rfl, hRw, s4, hb4⟩
  have hB4 := hB3.trans (hb4.mono hB3.size)
  have hbx4 := hbx3.below hb4
  have hXR : X < R := Nat.lt_of_lt_of_le hbx3.1 hRw
  have hwR : w.heap.size ≤ R := Nat.le_trans hB3.size hRw
  have hR4 : R < w4.heap.size := s4.1.1
  clear cr hb4
  have cr := refRead_any ta tcap zs w4 (ht.below hB4) (by omega)
  go_wp2_with fail
  refine cr.mono ?_
  rintro e w5 ⟨Q, rfl, hQw, t5, hb5⟩
  have hB5 := hB4.trans (hb5.mono hB4.size)
  have hbx5 := hbx4.below hb5
  have s5 := s4.below hb5
  obtain ⟨D, hDe⟩ : ∃ D, Hid (w4.heap.size = D) := ⟨_, hide rfl⟩
  rw [hDe.out] at t5 hR4 hQw
  have hRQ : R < Q := Nat.lt_of_lt_of_le hR4 hQw
  have hRD : R < D := hR4
  have hQ5 : Q < w5.heap.size := t5.lt
  clear cr hb5 s4 hbx3 hbx4 hB3 hB4 hDe
  have cp := fun w0 h0 h1 => bput_any ta tcap zs q a cap rs w0 h0 (by omega) h1 hn hs
  have cq := fun w0 h0 h1 => refBput_any ta tcap zs q a cap rs w0 h0 (by omega) h1 hn hs
  have cd := fun w0 g0 h0 => bdig_any q a cap rs w0 g0 h0 hn hs
  have ce := fun w0 h0 => refBdig_any q a cap rs w0 h0 hn hs
  unfold batV at cp cq cd ce
  have lL := batL_le q rs hn h.2.1 hs
  have lF : (zs ++ batL q rs).length ≤ 1000000 := by rw [List.length_append]; omega
  have hF0 : 0 < (zs ++ batL q rs).length := by have := batL_pos q rs; rw [List.length_append]; omega
  have hde := fun w0 => eqIn46 (digB q rs) (digB q rs) (sha_length _) (sha_length _) w0
  have hzl : zs.length ≤ 5000 := by omega
  obtain ⟨F, hFe⟩ : ∃ F, Hid (zs ++ batL q rs = F) := ⟨_, hide rfl⟩
  obtain ⟨dd, hDe⟩ : ∃ D, Hid (digB q rs = D) := ⟨_, hide rfl⟩
  rw [hFe.out] at lF hF0
  simp only [hFe.out, hDe.out] at cp cq cd ce hde
  have hdd : (dd == dd) = true := by simp
  simp only [hdd] at hde
  clear hFe hDe hdd lL
  obtain ⟨G, HGe⟩ : ∃ G, Hid (getB zs 0 = G) := ⟨_, hide rfl⟩
  go_wp2_with fail
  obtain ⟨w8, hw8⟩ : ∃ w8, w5.drew = w8 := ⟨_, rfl⟩
  refine hs_begin (S := (KB w X q a rs.length cap [] F [])) 43 rfl (by kernel_rfl) ?_
  have hS : (KB w X q a rs.length cap [] F []) w8 := by rw [← hw8]; exact ⟨⟨hbx5.drew3, hB5.drew⟩, by simp, by simp⟩
  have s8 : St w8 R zs 0 := by rw [← hw8]; exact s5.below (Below.refl _ _).drew
  have t8 : RSt D w8 Q zs 0 := by rw [← hw8]; exact t5.below (Below.refl _ _).drew
  have z8 : Q < w8.heap.size := by rw [← hw8]; exact hQ5
  rw [hw8]
  clear hw8 hbx5 hB5 s5 t5 hQ5
  refine hs_take (i := 0) (d := some 21) (v := ?_) rfl (by kernel_rfl) (by kernel_rfl) (by kernel_rfl) (by rfl) ?_ hS rfl ?_
  rotate_left
  · intro w' hw
    go_simp
    try with_reducible rfl
  simp only [Act.put, List.setIfInBounds_toArray, List.set_cons_zero, List.set_cons_succ]
  refine hs_take (i := 1) (d := some 22) (v := .agg #[.bool q, .slice a rs.length cap]) rfl (by kernel_rfl) (by kernel_rfl) (by kernel_rfl) (by rfl) (fun w' hw => exec_load rfl rfl (run_loadVar_mid (P := Tryd.prog) w' X 0 24 [.bool q, .slice a rs.length cap] _ hw.1.1.2.2.2 Tryd.underlying24 rfl hib)) hS rfl ?_
  simp only [Act.put, List.setIfInBounds_toArray, List.set_cons_zero, List.set_cons_succ]
  refine hs_take (i := 4) (d := some 25) (v := ?_) rfl (by kernel_rfl) (by kernel_rfl) (by kernel_rfl) (by rfl) ?_ hS rfl ?_
  rotate_left
  · intro w' hw
    go_simp
    try with_reducible rfl
  simp only [Act.put, List.setIfInBounds_toArray, List.set_cons_zero, List.set_cons_succ]
  refine hs_take (i := 5) (d := some 26) (v := .agg #[.bool q, .slice a rs.length cap]) rfl (by kernel_rfl) (by kernel_rfl) (by kernel_rfl) (by rfl) (fun w' hw => exec_load rfl rfl (run_loadVar_mid (P := Tryd.prog) w' X 0 24 [.bool q, .slice a rs.length cap] _ hw.1.1.2.2.2 Tryd.underlying24 rfl hib)) hS rfl ?_
  simp only [Act.put, List.setIfInBounds_toArray, List.set_cons_zero, List.set_cons_succ]
  refine hs_call (i := 2) (d := some 23) rfl (by kernel_rfl) (by rfl) (by go_simp; first | done | exact ⟨rfl, rfl⟩ | with_reducible rfl) rfl ?_
  refine (cp w8 (ht.below hS.1.2) (h.below hS.1.2)).mono ?_
  rintro e' w9 ⟨v9, rfl, m9, hw9⟩
  have hS : (KB w X q a rs.length cap [] F []) w9 := hS.on hw9
  refine ⟨_, rfl, hS, ?_⟩
  simp only [Act.put, List.setIfInBounds_toArray, List.set_cons_zero, List.set_cons_succ]
  obtain ⟨a9, cap9, rfl, _, _, row9⟩ := m9.rowAt (by unfold maxLen; omega)
  have lo9 := mine_lo5 m9
  refine hs_more5 (S' := (KB w X q a rs.length cap [a9] F [])) (fun _ hh => KB.less hh (by simp) (by simp)) _ _ _ _ ?_
  have hS : (KB w X q a rs.length cap [a9] F []) w9 := ⟨hS.1, fun x hx => by obtain rfl := List.mem_singleton.1 hx; exact row9, hS.2.2⟩
  have s9 := s8.below hw9
  have t9 := t8.below hw9
  have z9 := hw9.size
  refine hs_take (i := 3) (d := some 24) (v := .string (strOf F)) rfl (by kernel_rfl) (by kernel_rfl) (by kernel_rfl) (by rfl) (fun w' hw => by have hc := row_conv cap9 (hw.2.1 a9 (by simp)) hF0; go_simp) hS rfl ?_
  simp only [Act.put, List.setIfInBounds_toArray, List.set_cons_zero, List.set_cons_succ]
  refine hs_call (i := 6) (d := some 27) rfl (by kernel_rfl) (by rfl) (by go_simp; first | done | exact ⟨rfl, rfl⟩ | with_reducible rfl) rfl ?_
  refine (cq w9 (ht.below hS.1.2) (h.below hS.1.2)).mono ?_
  rintro e' w10 ⟨v10, rfl, m10, hw10⟩
  have hS : (KB w X q a rs.length cap [a9] F []) w10 := hS.on hw10
  refine ⟨_, rfl, hS, ?_⟩
  simp only [Act.put, List.setIfInBounds_toArray, List.set_cons_zero, List.set_cons_succ]
  obtain ⟨a10, cap10, rfl, _, _, row10⟩ := m10.rowAt (by unfold maxLen; omega)
  have lo10 := mine_lo5 m10
  refine hs_more5 (S' := (KB w X q a rs.length cap [a9, a10] F [])) (fun _ hh => KB.less hh (by simp) (by simp)) _ _ _ _ ?_
  have hS : (KB w X q a rs.length cap [a9, a10] F []) w10 := ⟨hS.1, fun x hx => by
    rcases List.mem_cons.1 hx with rfl | hx
    · exact hS.2.1 _ (by simp)
    · obtain rfl := List.mem_singleton.1 hx; exact row10, hS.2.2⟩
  have s10 := s9.below hw10
  have t10 := t9.below hw10
  have z10 := hw10.size
  clear m9 m10 row9 row10 s8 t8 s9 t9 hw9
  refine hs_take (i := 7) (d := some 28) (v := .string (strOf F)) rfl (by kernel_rfl) (by kernel_rfl) (by kernel_rfl) (by rfl) (fun w' hw => by have hc := row_conv cap10 (hw.2.1 a10 (by simp)) hF0; go_simp) hS rfl ?_
  simp only [Act.put, List.setIfInBounds_toArray, List.set_cons_zero, List.set_cons_succ]
  refine hs_take (i := 8) (d := some 29) (v := .bool true) rfl (by kernel_rfl) (by kernel_rfl) (by kernel_rfl) (by rfl) (fun w' hw => by go_simp) hS rfl ?_
  simp only [Act.put, List.setIfInBounds_toArray, List.set_cons_zero, List.set_cons_succ]
  refine hs_take (i := 9) (d := some 30) (v := ?_) rfl (by kernel_rfl) (by kernel_rfl) (by kernel_rfl) (by rfl) ?_ hS rfl ?_
  rotate_left
  · intro w' hw
    go_simp
    try with_reducible rfl
  simp only [Act.put, List.setIfInBounds_toArray, List.set_cons_zero, List.set_cons_succ]
  refine hs_take (i := 10) (d := some 31) (v := .agg #[.bool q, .slice a rs.length cap]) rfl (by kernel_rfl) (by kernel_rfl) (by kernel_rfl) (by rfl) (fun w' hw => exec_load rfl rfl (run_loadVar_mid (P := Tryd.prog) w' X 0 24 [.bool q, .slice a rs.length cap] _ hw.1.1.2.2.2 Tryd.underlying24 rfl hib)) hS rfl ?_
  simp only [Act.put, List.setIfInBounds_toArray, List.set_cons_zero, List.set_cons_succ]
  refine hs_take (i := 12) (d := some 33) (v := .agg #[.bool q, .slice a rs.length cap]) rfl (by kernel_rfl) (by kernel_rfl) (by kernel_rfl) (by rfl) (fun w' hw => exec_load rfl rfl (run_loadVar_mid (P := Tryd.prog) w' X 0 24 [.bool q, .slice a rs.length cap] _ hw.1.1.2.2.2 Tryd.underlying24 rfl hib)) hS rfl ?_
  simp only [Act.put, List.setIfInBounds_toArray, List.set_cons_zero, List.set_cons_succ]
  refine hs_call (i := 11) (d := some 32) rfl (by kernel_rfl) (by rfl) (by go_simp; first | done | exact ⟨rfl, rfl⟩ | with_reducible rfl) rfl ?_
  refine (cd w10 (hG.below hS.1.2) (h.below hS.1.2)).mono ?_
  rintro e' w11 ⟨rfl, hw11⟩
  have hS : (KB w X q a rs.length cap [a9, a10] F []) w11 := hS.on hw11
  refine ⟨_, rfl, hS, ?_⟩
  simp only [Act.put, List.setIfInBounds_toArray, List.set_cons_zero, List.set_cons_succ]
  refine hs_call (i := 13) (d := some 34) rfl (by kernel_rfl) (by rfl) (by go_simp; first | done | exact ⟨rfl, rfl⟩ | with_reducible rfl) rfl ?_
  refine (ce w11 (h.below hS.1.2)).mono ?_
  rintro e' w12 ⟨rfl, hw12⟩
  have hS : (KB w X q a rs.length cap [a9, a10] F []) w12 := hS.on hw12
  refine ⟨_, rfl, hS, ?_⟩
  simp only [Act.put, List.setIfInBounds_toArray, List.set_cons_zero, List.set_cons_succ]
  have s12 := (s10.below hw11).below hw12
  have t12 := (t10.below hw11).below hw12
  have z12 := Nat.le_trans hw11.size hw12.size
  clear s10 t10 hw10 hw11 hw12
  have cg := bget_any R zs 0 w12 s12 hzl (fun _ => hbs)
  rw [HGe.out] at cg
  unfold batV at cg
  refine hs_take (i := 14) (d := some 35) (v := .bool true) rfl (by kernel_rfl) (by kernel_rfl) (by kernel_rfl) (by rfl) (fun w' hw => by have hc := hde w'; go_simp) hS rfl ?_
  simp only [Act.put, List.setIfInBounds_toArray, List.set_cons_zero, List.set_cons_succ]
  refine hs_take (i := 15) (d := some 36) (v := .bool true) rfl (by kernel_rfl) (by kernel_rfl) (by kernel_rfl) (by rfl) (fun w' hw => by go_simp) hS rfl ?_
  simp only [Act.put, List.setIfInBounds_toArray, List.set_cons_zero, List.set_cons_succ]
  refine hs_take (i := 16) (d := some 37) (v := ?_) rfl (by kernel_rfl) (by kernel_rfl) (by kernel_rfl) (by rfl) ?_ hS rfl ?_
  rotate_left
  · intro w' hw
    go_simp
    try with_reducible rfl
  simp only [Act.put, List.setIfInBounds_toArray, List.set_cons_zero, List.set_cons_succ]
  refine hs_take (i := 17) (d := some 38) (v := ?_) rfl (by kernel_rfl) (by kernel_rfl) (by kernel_rfl) (by rfl) ?_ hS rfl ?_
  rotate_left
  · intro w' hw
    go_simp
    try with_reducible rfl
  simp only [Act.put, List.setIfInBounds_toArray, List.set_cons_zero, List.set_cons_succ]
  refine hs_take (i := 19) (d := some 40) (v := ?_) rfl (by kernel_rfl) (by kernel_rfl) (by kernel_rfl) (by rfl) ?_ hS rfl ?_
  rotate_left
  · intro w' hw
    go_simp
    try with_reducible rfl
  simp only [Act.put, List.setIfInBounds_toArray, List.set_cons_zero, List.set_cons_succ]
  refine hs_call (i := 18) (d := some 39) rfl (by kernel_rfl) (by rfl) (by go_simp; first | done | exact ⟨rfl, rfl⟩ | with_reducible rfl) rfl ?_
  refine (cg).mono ?_
  rintro e' w13 ⟨a13, cap13, rfl, hc13, hm13, row13, hlo13, s13, g13⟩
  have hS : (KB w X q a rs.length cap [a9, a10] F []) w13 := hS.gb g13 (by omega) (by omega) (rows_ne lo9 lo10 (by omega) (by omega))
  refine ⟨_, rfl, hS, ?_⟩
  simp only [Act.put, List.setIfInBounds_toArray, List.set_cons_zero, List.set_cons_succ]
  have t13 := t12.gb g13 (.inl ⟨hRD, by omega⟩)
  have ch := refBget_any D Q zs 0 w13 t13 (fun _ => hbs)
  rw [HGe.out] at ch
  unfold batV at ch
  clear cg t12 s12
  refine hs_call (i := 20) (d := some 41) rfl (by kernel_rfl) (by rfl) (by go_simp; first | done | exact ⟨rfl, rfl⟩ | with_reducible rfl) rfl ?_
  refine (ch).mono ?_
  rintro e' w14 ⟨a14, cap14, rfl, hc14, hm14, row14, hlo14, t14, g14⟩
  have hS : (KB w X q a rs.length cap [a9, a10] F []) w14 := hS.gb g14 (by omega) (by omega) (rows_ne lo9 lo10 (by omega) (by omega))
  refine ⟨_, rfl, hS, ?_⟩
  simp only [Act.put, List.setIfInBounds_toArray, List.set_cons_zero, List.set_cons_succ]
  have s14 := s13.gb g14 hRQ
  have row13 := row13.gb1 g14 (fun x hx => by have := hlo13 x hx; omega)
  refine hs_more5 (S' := (KB w X q a rs.length cap [a9, a10] F [(Q, G.err)])) (fun _ hh => KB.less hh (by simp) (by simp)) _ _ _ _ ?_
  have hS : (KB w X q a rs.length cap [a9, a10] F [(Q, G.err)]) w14 := ⟨hS.1, hS.2.1, fun x hx => by obtain rfl := List.mem_singleton.1 hx; exact t14.cell2⟩
  have csm := (refBSame_any G.q a13 cap13 G.rs G.q a14 cap14 G.rs w14 row13 row14).mono (fun e w' hh => same_true hh)
  unfold batV at csm
  clear ch s13 t13 g13
  refine hs_call (i := 21) (d := some 42) rfl (by kernel_rfl) (by rfl) (by go_simp; first | done | exact ⟨rfl, rfl⟩ | with_reducible rfl) rfl ?_
  refine (csm).mono ?_
  rintro e' w15 ⟨rfl, hw15⟩
  have hS : (KB w X q a rs.length cap [a9, a10] F [(Q, G.err)]) w15 := hS.on hw15
  refine ⟨_, rfl, hS, ?_⟩
  simp only [Act.put, List.setIfInBounds_toArray, List.set_cons_zero, List.set_cons_succ]
  have s15 := s14.below hw15
  have t15 := t14.below hw15
  clear csm s14 t14 row13 row14
  refine hs_take (i := 22) (d := some 43) (v := .bool true) rfl (by kernel_rfl) (by kernel_rfl) (by kernel_rfl) (by rfl) (fun w' hw => by go_simp) hS rfl ?_
  simp only [Act.put, List.setIfInBounds_toArray, List.set_cons_zero, List.set_cons_succ]
  refine hs_take (i := 23) (d := some 44) (v := ?_) rfl (by kernel_rfl) (by kernel_rfl) (by kernel_rfl) (by rfl) ?_ hS rfl ?_
  rotate_left
  · intro w' hw
    go_simp
    try with_reducible rfl
  simp only [Act.put, List.setIfInBounds_toArray, List.set_cons_zero, List.set_cons_succ]
  refine hs_take (i := 24) (d := some 45) (v := ?_) rfl (by kernel_rfl) (by kernel_rfl) (by kernel_rfl) (by rfl) ?_ hS rfl ?_
  rotate_left
  · intro w' hw
    go_simp
    try with_reducible rfl
  simp only [Act.put, List.setIfInBounds_toArray, List.set_cons_zero, List.set_cons_succ]
  refine hs_take (i := 26) (d := some 47) (v := ?_) rfl (by kernel_rfl) (by kernel_rfl) (by kernel_rfl) (by rfl) ?_ hS rfl ?_
  rotate_left
  · intro w' hw
    go_simp
    try with_reducible rfl
  simp only [Act.put, List.setIfInBounds_toArray, List.set_cons_zero, List.set_cons_succ]
  refine hs_take (i := 27) (d := some 48) (v := ?_) rfl (by kernel_rfl) (by kernel_rfl) (by kernel_rfl) (by rfl) ?_ hS rfl ?_
  rotate_left
  · intro w' hw
    go_simp
    try with_reducible rfl
  simp only [Act.put, List.setIfInBounds_toArray, List.set_cons_zero, List.set_cons_succ]
  refine hs_take (i := 28) (d := some 49) (v := ?_) rfl (by kernel_rfl) (by kernel_rfl) (by kernel_rfl) (by rfl) ?_ hS rfl ?_
  rotate_left
  · intro w' hw
    go_simp
    try with_reducible rfl
  simp only [Act.put, List.setIfInBounds_toArray, List.set_cons_zero, List.set_cons_succ]
  refine hs_take (i := 29) (d := some 50) (v := ?_) rfl (by kernel_rfl) (by kernel_rfl) (by kernel_rfl) (by rfl) ?_ hS rfl ?_
  rotate_left
  · intro w' hw
    have hc := hw.2.2 (Q, G.err) (by simp)
    go_simp
    try with_reducible rfl
  simp only [Act.put, List.setIfInBounds_toArray, List.set_cons_zero, List.set_cons_succ]
  refine hs_call (i := 25) (d := some 46) rfl (by kernel_rfl) (by rfl) (by go_simp; first | done | exact ⟨rfl, rfl⟩ | with_reducible rfl) rfl ?_
  refine (err_made R G.err w15 s15.1).mono ?_
  rintro e' w16 ⟨rfl, hx⟩
  have hS : (KB w X q a rs.length cap [a9, a10] F [(Q, G.err)]) w16 := by rw [hx]; exact hS
  refine ⟨_, rfl, hS, ?_⟩
  simp only [Act.put, List.setIfInBounds_toArray, List.set_cons_zero, List.set_cons_succ]
  obtain rfl := hx.symm
  clear hx
  refine hs_take (i := 30) (d := some 51) (v := .bool true) rfl (by kernel_rfl) (by kernel_rfl) (by kernel_rfl) (by rfl) (fun w' hw => by go_simp) hS rfl ?_
  simp only [Act.put, List.setIfInBounds_toArray, List.set_cons_zero, List.set_cons_succ]
  refine hs_take (i := 31) (d := some 52) (v := .bool true) rfl (by kernel_rfl) (by kernel_rfl) (by kernel_rfl) (by rfl) (fun w' hw => by go_simp) hS rfl ?_
  simp only [Act.put, List.setIfInBounds_toArray, List.set_cons_zero, List.set_cons_succ]
  refine hs_take (i := 32) (d := some 53) (v := ?_) rfl (by kernel_rfl) (by kernel_rfl) (by kernel_rfl) (by rfl) ?_ hS rfl ?_
  rotate_left
  · intro w' hw
    go_simp
    try with_reducible rfl
  simp only [Act.put, List.setIfInBounds_toArray, List.set_cons_zero, List.set_cons_succ]
  refine hs_take (i := 33) (d := some 54) (v := ?_) rfl (by kernel_rfl) (by kernel_rfl) (by kernel_rfl) (by rfl) ?_ hS rfl ?_
  rotate_left
  · intro w' hw
    go_simp
    try with_reducible rfl
  simp only [Act.put, List.setIfInBounds_toArray, List.set_cons_zero, List.set_cons_succ]
  refine hs_take (i := 35) (d := some 56) (v := ?_) rfl (by kernel_rfl) (by kernel_rfl) (by kernel_rfl) (by rfl) ?_ hS rfl ?_
  rotate_left
  · intro w' hw
    go_simp
    try with_reducible rfl
  simp only [Act.put, List.setIfInBounds_toArray, List.set_cons_zero, List.set_cons_succ]
  have cl := leftR_any R G.rest G.err w15 s15
  have cl2 := refLeft_any (B := D) Q G.rest G.err w15 t15
  obtain ⟨lv, hlv⟩ : ∃ lv, Hid ((if G.err = 0 then (G.rest.length : Int) else 0) = lv) := ⟨_, hide rfl⟩
  rw [hlv.out] at cl cl2
  refine hs_call (i := 34) (d := some 55) rfl (by kernel_rfl) (by rfl) (by go_simp; first | done | exact ⟨rfl, rfl⟩ | with_reducible rfl) rfl ?_
  refine (cl).mono ?_
  rintro e' w17 ⟨rfl, hx⟩
  have hS : (KB w X q a rs.length cap [a9, a10] F [(Q, G.err)]) w17 := by rw [hx]; exact hS
  refine ⟨_, rfl, hS, ?_⟩
  simp only [Act.put, List.setIfInBounds_toArray, List.set_cons_zero, List.set_cons_succ]
  obtain rfl := hx.symm
  clear hx
  refine hs_call (i := 36) (d := some 57) rfl (by kernel_rfl) (by rfl) (by go_simp; first | done | exact ⟨rfl, rfl⟩ | with_reducible rfl) rfl ?_
  refine (cl2).mono ?_
  rintro e' w18 ⟨rfl, k18, hx⟩
  have hS : (KB w X q a rs.length cap [a9, a10] F [(Q, G.err)]) w18 := by rw [hx]; exact hS.on (below_drewN5 (Below.refl _ _) k18)
  refine ⟨_, rfl, hS, ?_⟩
  simp only [Act.put, List.setIfInBounds_toArray, List.set_cons_zero, List.set_cons_succ]
  refine hs_take (i := 37) (d := some 58) (v := .bool true) rfl (by kernel_rfl) (by kernel_rfl) (by kernel_rfl) (by rfl) (fun w' hw => by go_simp) hS rfl ?_
  simp only [Act.put, List.setIfInBounds_toArray, List.set_cons_zero, List.set_cons_succ]
  refine hs_take (i := 38) (d := some 59) (v := .bool true) rfl (by kernel_rfl) (by kernel_rfl) (by kernel_rfl) (by rfl) (fun w' hw => by go_simp) hS rfl ?_
  simp only [Act.put, List.setIfInBounds_toArray, List.set_cons_zero, List.set_cons_succ]
  refine hs_take (i := 39) (d := some 60) (v := ?_) rfl (by kernel_rfl) (by kernel_rfl) (by kernel_rfl) (by rfl) ?_ hS rfl ?_
  rotate_left
  · intro w' hw
    go_simp
    try with_reducible rfl
  simp only [Act.put, List.setIfInBounds_toArray, List.set_cons_zero, List.set_cons_succ]
  refine hs_call (i := 40) (d := some 61) rfl (by kernel_rfl) (by rfl) (by go_simp; first | done | exact ⟨rfl, rfl⟩ | with_reducible rfl) rfl ?_
  refine (lives7_any w18 (hG.below hS.1.2)).mono ?_
  rintro e' w19 ⟨rfl, hw19⟩
  have hS : (KB w X q a rs.length cap [a9, a10] F [(Q, G.err)]) w19 := hS.on hw19
  refine ⟨_, rfl, hS, ?_⟩
  simp only [Act.put, List.setIfInBounds_toArray, List.set_cons_zero, List.set_cons_succ]
  refine hs_take (i := 41) (d := some 62) (v := .bool true) rfl (by kernel_rfl) (by kernel_rfl) (by kernel_rfl) (by rfl) (fun w' hw => by go_simp) hS rfl ?_
  simp only [Act.put, List.setIfInBounds_toArray, List.set_cons_zero, List.set_cons_succ]
  refine hs_take (i := 42) (d := some 4) (v := ?_) rfl (by kernel_rfl) (by kernel_rfl) (by kernel_rfl) (by rfl) ?_ hS rfl ?_
  rotate_left
  · intro w' hw
    go_simp
    try with_reducible rfl
  simp only [Act.put, List.setIfInBounds_toArray, List.set_cons_zero, List.set_cons_succ]
  refine hs_done (by kernel_rfl) ?_
  have hfin := hS.1.2
  go_wp2_with fail
  go_ret
  exact ⟨rfl, hfin⟩
end Go.Proofs.YtinpbnkmpplkiaaDoor
namespace Go.Proofs.YtinpbnkmpplkiaaDoor.batchReads
open Go.ChangeShapes Go.WideShapes Go.ChangeAt Go.RowKit
open Go.ChangeMaps (open_string shut_string)
set_option linter.unusedVariables false
set_option maxRecDepth 100000 in
theorem lifted (os : Os) (started : os.Started) (H : Type) (enc : TypeId × Value → H) :
    ReturnsInHanded {} Tryd.checked os 5 .any (fun w args => (Rows.batchReadsSpec.pre enc Tryd.prog Tryd.f5 [] false w args ∧ laidMetH Tryd.prog laid2 w) ∧ sizedMet enc Tryd.prog Tryd.f5 (OpenSpec.ofChange Rows.batchReadsSpec) false w args)
      (Rows.batchReadsSpec.post enc Tryd.prog Tryd.f5 false true false false) := by
  refine returnsInHanded_of_change_and (C := Tryd.checked) (X := fun w _ => laidMetH Tryd.prog laid2 w) (fun _ _ _ hh h => h.of_heap hh) own started (by kernel_rfl) Tryd.func5
    (ChangeSpec.witness_shaped (enc := enc) (C := Tryd.checked) (os := os) (X := fun w _ => laidMetH Tryd.prog laid2 w) false (World.doorLaid Tryd.prog 400 os) #[.slice none 0 0, .agg #[.bool false, .slice none 0 0]] 8 rfl (World.shaped_of_RefB (by kernel_rfl) (by kernel_rfl)) (by kernel_rfl) (by kernel_rfl) (by kernel_rfl) (door_met os _)) ?_
  intro W base args ds gs before hval0 hW _ _ hL _
  have hval : ∀ (j : Nat) t v, Tryd.f5.params[j]? = some t → args[j]? = some v → Value.okWide Tryd.prog W .any base t v := hval0
  have hW' := hW
  obtain ⟨p, q, hA0, hV, rfl, hfz, hnd⟩ := hW
  have hA : DataW.TrodAll enc Tryd.prog W 0 (fun _ => true) true Tryd.f5.params.toList args.toList ds p := hA0
  rw [Tryd.params5] at hA hval
  obtain ⟨v0, vs0, d0, ds0, p0, q0, hargs, rfl, rfl, h0, r0⟩ := trodAll_cons hA
  obtain ⟨v1, vs1, d1, ds1, p1, q1, rfl, rfl, rfl, h1, r1⟩ := trodAll_cons r0
  obtain ⟨rfl, rfl, rfl⟩ := trodAll_nil r1
  obtain rfl : args = #[v0, v1] := by cases args; simp_all
  obtain ⟨rfl, rfl⟩ := trodVars_none hV
  have k0 := h0
  have lt0 : ∀ x ∈ p0, x.block < W.heap.size := by obtain ⟨m, hm⟩ := k0; exact DataW.trod_lt m _ _ _ hm
  have k1 := h1
  have lt1 : ∀ x ∈ p1, x.block < W.heap.size := by obtain ⟨m, hm⟩ := k1; exact DataW.trod_lt m _ _ _ hm
  obtain ⟨a0, len0, cap0, rfl⟩ := okWide_slice Tryd.underlying39 (hval 0 39 v0 rfl rfl)
  obtain ⟨z0, w0⟩ : ∃ zs, IsRow .u8 W a0 len0 cap0 zs := by
    obtain ⟨fuel, hf⟩ := h0
    rcases open_ints Tryd.underlying39 Tryd.underlying5 (by kernel_rfl) hf with ⟨hcs, _⟩ | ⟨x, l, c, zs, hcs, _, hl, hm, hz, _, hcell, hwz⟩
    · simp [Value.cells] at hcs
      obtain ⟨rfl, rfl, rfl⟩ := hcs
      exact ⟨[], .inl ⟨rfl, rfl, rfl, rfl⟩⟩
    · simp [Value.cells] at hcs
      obtain ⟨rfl, rfl, rfl⟩ := hcs
      exact ⟨zs, .inr ⟨_, rfl, hl, hm, by simpa using hz, hcell, hwz⟩⟩
  obtain ⟨y0, rfl, hc0, hm0, row0⟩ := w0.rowAt
  obtain ⟨q1, a1, cap1, rs1, rfl, hc1, hm1, row1⟩ : ∃ (q : Bool) (a : Option Addr) (cap : Nat) (rs : List Rq), v1 = batV q a rs.length cap ∧ rs.length ≤ cap ∧ cap ≤ maxLen ∧ ReqsAt W a rs := by
    obtain ⟨fuel, hf⟩ := h1
    exact open_batch (hval 1 24 v1 rfl rfl) hf
  have hG := glob_of hL
  clear hA0 hval0
  refine (reads_walk a0 cap0 y0 q1 a1 cap1 rs1 W hG row0 row1 hc1 hm1).mono fun e W' ⟨he, bel⟩ => ?_
  subst he
  exact ⟨_, rfl, _, _, _, [], _, [], hW', trodAll_mk1 (shut_bool Tryd.underlying4 _), (trodAll_cons_mk (Below.trod laidOut (by kernel_rfl) (of_decide_eq_true (by kernel_rfl)) k0 bel lt0) (trodAll_cons_mk (Below.trod laidOut (by kernel_rfl) (of_decide_eq_true (by kernel_rfl)) k1 bel lt1) trodAll_mk0)), rfl, bel.frame _, fun h => by cases h⟩
theorem over : Rows.BatchReadsSaid :=
  OpenClaim.holds_of_wide 5 Tryd.f5 rfl rfl rfl rfl rfl rfl rfl ⟨rfl, rfl, rfl, rfl, rfl⟩ rfl rfl rfl rfl rfl (by kernel_rfl) Tryd.func5 (by kernel_rfl)
    (of_decide_eq_true (by kernel_rfl)) (by unfold Func.isWrapper; first | (rw [if_pos (by decide +kernel)]; kernel_rfl) | (rw [if_neg (by decide +kernel)]; exact ⟨rfl, rfl⟩))
    (fun os started H enc _ => lifted os started H enc)
end Go.Proofs.YtinpbnkmpplkiaaDoor.batchReads
namespace Go.Proofs.YtinpbnkmpplkiaaDoor
theorem batchReads_card : Rows.BatchReadsCardSaid :=
  Claim7.holds_tied_plain_at .later [] [.data, .data] true (true, "61a8ae4d0ddc459a7597b5b9a09190dd4627ce038268ad30758d36005a2cb3ab") false
    batchReads.over (fun _ h => by cases h) (by kernel_rfl) (fun _ h => by cases h) batchReads_row_tie rfl ⟨rfl, rfl⟩ (by kernel_rfl) rfl
    (fun f fn hf hfn => by
      obtain rfl : f = 5 := Option.some.inj ((show Tryd.prog.funcNamed "raddle/raddlelaw07.BatchReads" = some 5 by kernel_rfl).symm.trans hf) |>.symm
      obtain rfl : fn = Tryd.f5 := (Option.some.inj (Tryd.func5.symm.trans hfn)).symm
      exact ⟨by kernel_rfl, fun j t ht => by
        rw [Tryd.params5] at ht
        rcases j with _ | _ | j
        · obtain rfl : t = 39 := by simpa using ht.symm
          exact (show Tryd.prog.wantsStandIn 39 = false by kernel_rfl)
        · obtain rfl : t = 24 := by simpa using ht.symm
          exact (show Tryd.prog.wantsStandIn 24 = false by kernel_rfl)
        · simp at ht⟩)
    (by kernel_rfl)
#print axioms batchReads_card
end Go.Proofs.YtinpbnkmpplkiaaDoor
