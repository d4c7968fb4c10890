/- The document's Get of requests: its contract. The law RequestReads: its walk. For every bytes b and request x, raddlelaw06.RequestReads returns true: any request has the bytes that the document says, and any bytes are read as it says. Conditions: none beyond the row's own; the card ties the tables 'starts' and 'roots' of package digest to the program's text (of the pruned copy of the project). -/
import Derived.Test.YtbfhpgneaklgoabDoorJRB
import Derived.Test.YtbfhpgneaklgoabDoorFrameR
namespace Go.Proofs.YtbfhpgneaklgoabDoor
open Go.RowKit
open Sha Tal
theorem RSt.lt {D : Nat} {w : World} {R : Nat} {rest : List Int} {e : Int} (h : RSt D w R rest e) : R < w.heap.size := by
  obtain ⟨zs, p, hR, _⟩ := h
  exact hR.1
theorem RSt.cell2 {D : Nat} {w : World} {R : Nat} {rest : List Int} {e : Int} (h : RSt D w R rest e) : w.cell? ⟨R, 2, none⟩ = some (.int .i64 e) := by
  obtain ⟨zs, p, hR, _⟩ := h
  exact hR.2.2.2.1
theorem tag_step (c n : Int) (s : ByteArray) (t : List Int) (i : Nat) (hi : i < 16) (ht : t.length = 16) : reqL c n s (t.take (i + 1) ++ List.replicate (16 - (i + 1)) (0 : Int)) = (reqL c n s (t.take i ++ List.replicate (16 - i) (0 : Int))).set (3 + i) (.int .u8 (t.getD i 0)) := by
  have e : (t.take i ++ List.replicate (16 - i) (0 : Int)).set i (t.getD i 0) = t.take (i + 1) ++ List.replicate (16 - (i + 1)) (0 : Int) := by
    have hl : (t.take i).length = i := by rw [List.length_take]; omega
    rw [List.set_append, if_neg (by omega), hl, Nat.sub_self, show 16 - i = (16 - (i + 1)) + 1 by omega, List.replicate_succ, List.set_cons_zero, List.getD_eq_getElem?_getD, List.getElem?_eq_getElem (by omega)]
    simp
    rw [List.take_succ_eq_append_getElem (by omega), List.append_assoc]
    rfl
  rw [← e, show 3 + i = i + 1 + 1 + 1 by omega]
  show _ :: _ :: _ :: v8 _ = _ :: _ :: _ :: (v8 _).set i _
  rw [v8_set]
set_option maxRecDepth 100000 in
set_option maxHeartbeats 4000000 in
theorem refRGet_any (D R : Nat) (rest : List Int) (e : Int) (w : World) (h : RSt D w R rest e) :
    Calls Tryd.prog 23 #[.pointer (some ⟨R, 0, none⟩)] w fun en w' => en = .returned (.agg (rgetL (rgetR rest e)).toArray) ∧ RSt D w' R (rgetR rest e).rest (rgetR rest e).err ∧ w.grownBy w' (some R) := by
  have hRw := RSt.lt h
  obtain ⟨G, hG⟩ : ∃ G, Hid (rgetR rest e = G) := ⟨_, rfl⟩
  rw [hG.out]
  have k0 := hG.out
  unfold rgetR at k0
  simp only at k0
  clear hG
  have c1 := fun w0 h0 => refNum_any (B := D) R rest e 8 w0 h0
  obtain ⟨v1, hv1⟩ : ∃ x, Hid ((numS rest e 8).1 = x) := ⟨_, rfl⟩
  obtain ⟨r1, hr1⟩ : ∃ x, Hid ((numS rest e 8).2.1 = x) := ⟨_, rfl⟩
  obtain ⟨e1, he1⟩ : ∃ x, Hid ((numS rest e 8).2.2 = x) := ⟨_, rfl⟩
  simp only [hv1.out, hr1.out, he1.out] at k0 c1
  have c2 := fun w0 h0 => refNum_any (B := D) R r1 e1 1099511627776 w0 h0
  obtain ⟨v2, hv2⟩ : ∃ x, Hid ((numS r1 e1 1099511627776).1 = x) := ⟨_, rfl⟩
  obtain ⟨r2, hr2⟩ : ∃ x, Hid ((numS r1 e1 1099511627776).2.1 = x) := ⟨_, rfl⟩
  obtain ⟨e2, he2⟩ : ∃ x, Hid ((numS r1 e1 1099511627776).2.2 = x) := ⟨_, rfl⟩
  simp only [hv2.out, hr2.out, he2.out] at k0 c2
  have c3 := fun w0 h0 => refText_any (B := D) R r2 e2 64 w0 h0
  obtain ⟨v3, hv3⟩ : ∃ x, Hid ((textS r2 e2 64).1 = x) := ⟨_, rfl⟩
  obtain ⟨r3, hr3⟩ : ∃ x, Hid ((textS r2 e2 64).2.1 = x) := ⟨_, rfl⟩
  obtain ⟨e3, he3⟩ : ∃ x, Hid ((textS r2 e2 64).2.2 = x) := ⟨_, rfl⟩
  simp only [hv3.out, hr3.out, he3.out] at k0 c3
  have f4 := rawS_16 r3 e3
  have c4 := fun w0 h0 => refRaw_any (B := D) R r3 e3 16 w0 h0
  obtain ⟨v4, hv4⟩ : ∃ x, Hid ((rawS r3 e3 16).1 = x) := ⟨_, rfl⟩
  obtain ⟨r4, hr4⟩ : ∃ x, Hid ((rawS r3 e3 16).2.1 = x) := ⟨_, rfl⟩
  obtain ⟨e4, he4⟩ : ∃ x, Hid ((rawS r3 e3 16).2.2 = x) := ⟨_, rfl⟩
  simp only [hv4.out, hr4.out, he4.out] at k0 f4 c4
  obtain ⟨hv4l, hv4e⟩ := f4
  have G1 : Hid (rgetL G = if e4 = 0 then reqL v1 v2 (strOf v3) v4 else noReq) := hide (by rw [← k0]; rfl)
  have G2 : Hid (G.rest = r4) := hide (by rw [← k0])
  have G3 : Hid (G.err = e4) := hide (by rw [← k0])
  clear k0 hv1 hr1 he1 hv2 hr2 he2 hv3 hr3 he3 hv4 hr4 he4
  generalize strOf v3 = sv at *
  have hb1 : Below w.heap.size w (w.alloc (.cells noReq.toArray 33)) := (Below.refl _ _).alloc (Nat.le_refl _) _
  have ht1 := there_new w noReq.toArray 33
  have hz1 : (w.alloc (.cells noReq.toArray 33)).heap.size = w.heap.size + 1 := World.size_alloc _ _
  have hb2 : Below (w.alloc (.cells noReq.toArray 33)).heap.size (w.alloc (.cells noReq.toArray 33)) ((w.alloc (.cells noReq.toArray 33)).alloc (.cells noReq.toArray 33)) := (Below.refl _ _).alloc (Nat.le_refl _) _
  have ht2 := there_new (w.alloc (.cells noReq.toArray 33)) noReq.toArray 33
  have hr2 := range_new (w.alloc (.cells noReq.toArray 33)) noReq.toArray 33
  have hz2 : ((w.alloc (.cells noReq.toArray 33)).alloc (.cells noReq.toArray 33)).heap.size = w.heap.size + 2 := by rw [World.size_alloc, hz1]
  rw [hz1] at ht2 hr2
  have hb12 : Below w.heap.size w ((w.alloc (.cells noReq.toArray 33)).alloc (.cells noReq.toArray 33)) := hb1.trans (hb2.mono hb1.size)
  have gs0 : GS w R noReq ((w.alloc (.cells noReq.toArray 33)).alloc (.cells noReq.toArray 33)) := ⟨by simpa using hr2, ht2, there_below ht1 hb2 (by omega), gb_below hb12 _, by omega⟩
  have s0 := h.below hb12
  clear hb1 ht1 hb2 ht2 hr2 hb12 hz1 hz2 h
  go_enter Tryd.func23, Tryd.ntmps23
  go_upto_region 2 with fail
  obtain ⟨w1, hw1⟩ : ∃ w1, (w.alloc (.cells noReq.toArray 33)).alloc (.cells noReq.toArray 33) = w1 := ⟨_, rfl⟩
  rw [hw1] at gs0 s0
  rw [litReq, hw1]
  clear hw1
  try simp only [Act.put]
  have hsz := gs0.size
  go_wp2_with fail
  refine (c1 w1 s0).mono ?_
  rintro en w2 ⟨rfl, s2, g2⟩
  have gs2 := gs0.gb hRw g2
  clear c1 gs0 s0 g2 hsz
  have hq : w2.cell? ⟨w.heap.size + 1, 0, none⟩ = some (.int .i64 0) := gs2.row 0 _ rfl
  have hf : w2.frozen? ⟨w.heap.size + 1, 0, none⟩ = false := (gs2.box 0 (by decide)).2
  have gs3 := gs2.set 0 (.int .i64 v1)
  have s3 := s2.gb (gb_set w2 (w.heap.size + 1) 0 (.int .i64 v1)) (.inr (by omega))
  go_wp2_with fail
  obtain ⟨w3, hw3⟩ : ∃ w3, w2.setCell ⟨w.heap.size + 1, 0, none⟩ (.int .i64 v1) = w3 := ⟨_, rfl⟩
  rw [hw3] at gs3 s3 ⊢
  clear hw3 gs2 s2 hq hf
  refine (c2 w3 s3).mono ?_
  rintro en w4 ⟨rfl, s4, g4⟩
  have gs4 := gs3.gb hRw g4
  clear c2 gs3 s3 g4
  have hq : w4.cell? ⟨w.heap.size + 1, 1, none⟩ = some (.int .i64 0) := gs4.row 1 _ rfl
  have hf : w4.frozen? ⟨w.heap.size + 1, 1, none⟩ = false := (gs4.box 1 (by decide)).2
  have gs5 := gs4.set 1 (.int .i64 v2)
  have s5 := s4.gb (gb_set w4 (w.heap.size + 1) 1 (.int .i64 v2)) (.inr (by omega))
  go_wp2_with fail
  obtain ⟨w5, hw5⟩ : ∃ w5, w4.setCell ⟨w.heap.size + 1, 1, none⟩ (.int .i64 v2) = w5 := ⟨_, rfl⟩
  rw [hw5] at gs5 s5 ⊢
  clear hw5 gs4 s4 hq hf
  refine (c3 w5 s5).mono ?_
  rintro en w6 ⟨rfl, s6, g6⟩
  have gs6 := gs5.gb hRw g6
  clear c3 gs5 s5 g6
  have hq : w6.cell? ⟨w.heap.size + 1, 2, none⟩ = some (.string ⟨#[]⟩) := gs6.row 2 _ rfl
  have hf : w6.frozen? ⟨w.heap.size + 1, 2, none⟩ = false := (gs6.box 2 (by decide)).2
  have gs7 : GS w R (reqL v1 v2 sv zeros16) (w6.setCell ⟨w.heap.size + 1, 2, none⟩ (.string sv)) := gs6.set 2 (.string sv)
  have s7 := s6.gb (gb_set w6 (w.heap.size + 1) 2 (.string sv)) (.inr (by omega))
  go_upto_region 5 with fail
  obtain ⟨w7, hw7⟩ : ∃ w7, w6.setCell ⟨w.heap.size + 1, 2, none⟩ (.string sv) = w7 := ⟨_, rfl⟩
  rw [hw7] at gs7 s7 ⊢
  clear hw7 gs6 s6 hq hf
  try simp only [Act.put]
  go_wp2_with fail
  refine (c4 w7 s7).mono ?_
  rintro en w9 ⟨v9, rfl, m9, s9, g9⟩
  have gs9 := gs7.gb hRw g9
  have hA9 : ∀ x, ∀ a cap, v9 = .slice a v4.length cap → a = some x → x.block ≠ w.heap.size + 1 := by
    intro x a cap hv hx
    subst hv hx
    have hs7 := gs7.size
    rcases m9.1.2 with ⟨hv, _⟩ | ⟨g, cp, cur, hv, hg, _⟩
    · cases hv
    · injection hv with hv _ _
      injection hv with hv
      subst hv
      show g ≠ w.heap.size + 1
      omega
  obtain ⟨a9, cap9, rfl, hc9, hm9, row9⟩ := m9.rowAt (by unfold maxLen; rcases hv4l with q | q <;> (first | omega | (rw [q]; decide)))
  have hA9 : ∀ x, a9 = some x → x.block ≠ w.heap.size + 1 := fun x hx => hA9 x a9 cap9 rfl hx
  clear c4 gs7 s7 g9 m9
  have x2 : w9.cell? ⟨R, 2, none⟩ = some (.int .i64 e4) := RSt.cell2 s9
  have hi := iszN
  have ho : (noReq.toArray.all fun x => x.oneCell') = true := all_oneCell_toArray (reqL_one 0 0 ⟨#[]⟩ zeros16)
  have hszz := gs9.size
  by_cases he : e4 = 0
  · subst he
    have h16 := hv4e rfl
    have E1 : Hid (rgetL G = reqL v1 v2 sv v4) := hide (by rw [G1.out, if_pos rfl])
    clear hv4l hv4e hi ho
    go_wp2_with fail
    go_loopw [5] (fun iv wr => ∃ i : Nat, i ≤ 16 ∧ iv = .int .i64 (i : Int) ∧ GS w R (reqL v1 v2 sv (v4.take i ++ List.replicate (16 - i) (0 : Int))) wr ∧ RowAt wr a9 v4 ∧ RSt D wr R r4 0) (fun iv _ => 16 - (intOf iv).toNat)
    case atStart => exact ⟨0, by omega, rfl, gs9, row9, s9⟩
    case round =>
      obtain ⟨i, hi16, rfl, gsr, rowr, sr⟩ := hrel
      by_cases hlt : i < 16
      · obtain ⟨b, off, rfl, hb, hcx, hx0, hx1⟩ := rowr.get i (by omega)
        have HT : Hid (reqL v1 v2 sv (v4.take (i + 1) ++ List.replicate (16 - (i + 1)) (0 : Int)) = (reqL v1 v2 sv (v4.take i ++ List.replicate (16 - i) (0 : Int))).set (3 + i) (.int .u8 (v4.getD i 0))) := hide (tag_step v1 v2 sv v4 i hlt h16)
        have hcell := gsr.box (3 + i) (by omega)
        rw [Nat.zero_add] at hcell
        obtain ⟨u, hu⟩ := Option.isSome_iff_exists.1 hcell.1
        have hfz := hcell.2
        have gsn := gsr.set (3 + i) (.int .u8 (v4.getD i 0))
        have rown := rowr.gb (gb_set wr (w.heap.size + 1) (3 + i) (.int .u8 (v4.getD i 0))) (.inr hA9)
        have sn := sr.gb (gb_set wr (w.heap.size + 1) (3 + i) (.int .u8 (v4.getD i 0))) (.inr (by omega))
        generalize v4.getD i 0 = x at *
        have hil : (i : Int) < v4.length := by omega
        have hil2 : (i : Int) < 16 := by omega
        go_wp2_with fail
        go_roundw
        case rel => exact ⟨i + 1, by omega, by go_num, by rw [HT.out]; exact gsn, rown, sn⟩
        case measure => simp [intOf]; omega
      · obtain rfl : i = 16 := by omega
        have HZ : v4.take 16 ++ List.replicate (16 - 16) (0 : Int) = v4 := by rw [Nat.sub_self, List.replicate_zero, List.append_nil, List.take_of_length_le (by omega)]
        rw [HZ] at gsr
        clear HZ
        have hiq : (Tryd.prog.info? 33).map (·.size) = some (reqL v1 v2 sv v4).length := by rw [reqL_length _ _ _ _ h16]; exact iszR
        have hoq := all_oneCell_toArray (reqL_one v1 v2 sv v4)
        have hiq' : (Tryd.prog.info? 33).map (·.size) = some (reqL v1 v2 sv v4).toArray.size := by rw [List.size_toArray]; exact hiq
        obtain ⟨q, hq⟩ : ∃ q, Hid (reqL v1 v2 sv v4 = q) := ⟨_, rfl⟩
        have hql : q.length = 19 := by rw [← hq.out]; exact reqL_length _ _ _ _ h16
        rw [hq.out] at E1 hiq hoq hiq'
        have hrow : wr.rangeAt (w.heap.size + 1) 0 q := by rw [← hq.out]; exact gsr.row
        have hans : wr.there w.heap.size 0 q.toArray.size := by have := gsr.ans; rw [← hql] at this; exact this
        have hrs := run_loadVar_mid (P := Tryd.prog) (wr.setCells w.heap.size 0 q) w.heap.size 0 33 q _ (World.rangeAt_setCells_same wr w.heap.size 0 q (by have := hans; simpa using this)) Tryd.underlying33 rfl hiq
        have gf := gb_onR gsr.grown (below_sets (B := w.heap.size) (b := w.heap.size) (Nat.le_refl _) q 0 _ (Below.refl _ wr)) (Nat.le_refl _)
        have sf := sr.gb (gb_setsR wr w.heap.size q 0) (.inr hRw)
        clear gsr sr rowr
        go_wp2_with (first | refine wpList_load_mid (op := ⟨some 34, .load 33 (.tmp 3), _, _, _, none⟩) rfl 33 _ rfl _ _ rfl q _ hrow Tryd.underlying33 rfl hiq ?_ | refine wpList_store_mid (op := ⟨none, .store 33 (.tmp 2) (.tmp 34), _, _, _, none⟩) rfl 33 _ _ rfl _ _ q.toArray rfl rfl hans hiq' hoq ?_)
        refine bodyPost_ret (v := .agg q.toArray) ?_ rfl ?_
        · simp [results, Tryd.results23, Act.put, asAddr, hrs]
        · exact ⟨by rw [E1.out], by rw [G2.out, G3.out]; exact sf, gf⟩
  · have E1 : Hid (rgetL G = noReq) := hide (by rw [G1.out, if_neg he])
    have hans : w9.there w.heap.size 0 noReq.toArray.size := gs9.ans
    have hi' : (Tryd.prog.info? 33).map (·.size) = some noReq.length := by simpa using hi
    have hlit := litReq
    obtain ⟨q, hq⟩ : ∃ q, Hid (noReq = q) := ⟨_, rfl⟩
    rw [hq.out] at E1 hi ho hans hi' hlit
    have hrs := run_loadVar_mid (P := Tryd.prog) (w9.setCells w.heap.size 0 q) w.heap.size 0 33 q _ (World.rangeAt_setCells_same w9 w.heap.size 0 q (by have := hans; simpa using this)) Tryd.underlying33 rfl hi'
    have gf := gb_onR gs9.grown (below_sets (B := w.heap.size) (b := w.heap.size) (Nat.le_refl _) q 0 _ (Below.refl _ w9)) (Nat.le_refl _)
    have sf := s9.gb (gb_setsR w9 w.heap.size q 0) (.inr hRw)
    clear gs9 s9 hv4l hv4e
    go_wp2_with (refine wpList_store_mid (op := ⟨none, .store 33 (.tmp 2) (.tmp 22), _, _, _, none⟩) rfl 33 _ _ rfl _ _ q.toArray rfl (by rw [← hlit]; rfl) hans hi ho ?_)
    refine bodyPost_ret (v := .agg q.toArray) ?_ rfl ?_
    · simp [results, Tryd.results23, Act.put, asAddr, hrs]
    · exact ⟨by rw [E1.out], by rw [G2.out, G3.out]; exact sf, gf⟩
end Go.Proofs.YtbfhpgneaklgoabDoor
namespace Go.Proofs.YtbfhpgneaklgoabDoor
open Go.RowKit
open Sha Tal
section
variable {P : Program} {ops : Array Oper} {Q : Exit → Act → World → Prop}
theorem hs_moreR {S S' : World → Prop} (h : ∀ w, S' w → S w) : ∀ (fuel : Nat) (listed : Array Bool) (a : Act) (w : World), HeldS P ops Q S' fuel listed a w → HeldS P ops Q S fuel listed a w
  | 0, _, _, _, k => k
  | fuel + 1, _, _, _, k => ⟨k.1, fun i hi => wpOp_mono (fun a' w' k' => ⟨h w' k'.1, hs_moreR h fuel _ a' w' k'.2⟩) (k.2 i hi)⟩
end
theorem below_drewNR {n : Nat} {a w : World} (h : Below n a w) (k : Nat) : Below n a (w.drewN k) := ⟨h.os, h.tape, h.output, h.size, h.block⟩
/-- what the last region keeps: the law's request; bytes that were laid; the error of the document's reader -/
def KR (w : World) (Y : Nat) (qq : List Value) (rows : List (Option Addr)) (F : List Int) (q : List (Nat × Int)) (W : World) : Prop :=
  (W.rangeAt Y 0 qq ∧ Below w.heap.size w W ∧ Y < W.heap.size) ∧ (∀ a ∈ rows, RowAt W a F) ∧ (∀ x ∈ q, W.cell? ⟨x.1, 2, none⟩ = some (.int .i64 x.2))
section
variable {w : World} {Y : Nat} {qq : List Value} {rows rows' : List (Option Addr)} {F : List Int} {q q' : List (Nat × Int)} {W W' : World}
theorem KR.on (h : KR w Y qq rows F q W) (hb : Below W.heap.size W W') : KR w Y qq rows F q W' :=
  ⟨⟨range_below h.1.1 hb h.1.2.2, h.1.2.1.trans (hb.mono h.1.2.1.size), Nat.lt_of_lt_of_le h.1.2.2 hb.size⟩, fun a ha => (h.2.1 a ha).below hb, fun x hx => (hb.cell (p := ⟨x.1, 2, none⟩) (World.block_lt_of_cell? W _ (h.2.2 x hx))).trans (h.2.2 x hx)⟩
theorem KR.less (h : KR w Y qq rows' F q' W) (hr : ∀ a ∈ rows, a ∈ rows') (hq : ∀ x ∈ q, x ∈ q') : KR w Y qq rows F q W :=
  ⟨h.1, fun a ha => h.2.1 a (hr a ha), fun x hx => h.2.2 x (hq x hx)⟩
theorem KR.gb {R : Nat} (h : KR w Y qq rows F [] W) (hg : W.grownBy W' (some R)) (hR : Y < R) (hY : w.heap.size ≤ Y) (hne : ∀ a ∈ rows, ∀ x, a = some x → x.block ≠ R) : KR w Y qq rows F [] W' :=
  ⟨⟨range_gbR h.1.1 hg h.1.2.2 (by omega), gb_belowR h.1.2.1 hg (by omega) (by have := h.1.2.2; omega), Nat.lt_of_lt_of_le h.1.2.2 hg.size⟩, fun a ha => (h.2.1 a ha).gb hg (.inr (hne a ha)), fun x hx => absurd hx (by simp)⟩
end
theorem mine_loR {w : World} {D n cap : Nat} {a : Option Addr} {zs : List Int} (h : Mine w D (.slice a n cap) zs) : ∀ x, a = some x → D ≤ x.block := by
  intro x hx
  subst hx
  rcases h.1.2 with ⟨hv, _⟩ | ⟨g, cp, cur, hv, hg, _⟩
  · cases hv
  · injection hv with hv _ _
    injection hv with hv
    subst hv
    exact hg
theorem rget_form (rest : List Int) (e : Int) : ∃ (c n : Int) (s : ByteArray) (t : List Int), rgetL (rgetR rest e) = reqL c n s t ∧ t.length = 16 := by
  have f4 := fun r3 e3 => (rawS_16 r3 e3).2
  unfold rgetL
  split
  · rename_i h
    exact ⟨_, _, _, _, rfl, f4 _ _ h⟩
  · exact ⟨0, 0, ⟨#[]⟩, zeros16, rfl, rfl⟩
set_option maxRecDepth 100000 in
set_option maxHeartbeats 8000000 in
theorem rreads_walk (a : Option Addr) (cap : Nat) (zs : List Int) (c n : Int) (s : ByteArray) (t : List Int) (w : World) (hG : Glob w) (ht : t.length = 16) (htb : ∀ z ∈ t, 0 ≤ z ∧ z < 256) (hc : c ≤ 9223372036854775807) (hn : n ≤ 9223372036854775807) (h : RowAt w a zs) :
   Calls Tryd.prog 5 #[.slice a zs.length cap, .agg (reqL c n s t).toArray] w fun e w' => e = .returned (.bool true) ∧ Below w.heap.size w w' := by
  have hB1 : Below w.heap.size w (w.alloc (.cells (reqL c n s t).toArray 33)) := (Below.refl _ _).alloc (Nat.le_refl _) _
  have hR1 := req_cells w c n s t
  have hz1 : w.heap.size < (w.alloc (.cells (reqL c n s t).toArray 33)).heap.size := by simp
  have hiq : (Tryd.prog.info? 33).map (·.size) = some (reqL c n s t).length := by rw [reqL_length c n s t ht]; exact iszR
  have hq0 := fun (w0 : World) (b0 : Nat) h0 => @reqL_0 w0 b0 c n s t h0
  have cp := fun w0 h0 h1 (h2 : s.size ≤ 1000000) => rput_any a cap zs c n s t w0 h0 h1 ht htb hc hn h2
  have cq := fun w0 h0 h1 (h2 : s.size ≤ 100000) => refRPut_any a cap zs c n s t w0 h0 h1 ht htb hc hn h2
  have lF : zs.length ≤ 2000 → s.size ≤ 2000 → (zs ++ (putL c ++ putL n ++ textL s) ++ t).length ≤ 5000 := by
    intro hz hs
    have h1 := putL_length c (by omega)
    have h2 := putL_length n (by omega)
    have h3 := putL_length s.size (by omega)
    simp only [textL, List.length_append, strL_length]
    omega
  obtain ⟨F, hF⟩ : ∃ F, Hid (zs ++ (putL c ++ putL n ++ textL s) ++ t = F) := ⟨_, hide rfl⟩
  simp only [hF.out] at cp cq lF
  have cg := fun R w0 h0 h1 => rget_any R zs 0 w0 h0 h1
  have ch := fun D X w0 h0 => refRGet_any D X zs 0 w0 h0
  obtain ⟨c', n', s', t', hL, ht'⟩ := rget_form zs 0
  have heq := eqReq c' n' s' t' c' n' s' t' ht' ht'
  rw [show reqB c' n' s' t' c' n' s' t' = true by simp [reqB], ← hL] at heq
  obtain ⟨G, hGG⟩ : ∃ G, Hid (rgetR zs 0 = G) := ⟨_, hide rfl⟩
  rw [hGG.out] at heq
  simp only [hGG.out] at cg ch
  obtain ⟨U, hU⟩ : ∃ U, Hid (rgetL G = U) := ⟨_, hide rfl⟩
  obtain ⟨rest, hrs⟩ : ∃ x, Hid (G.rest = x) := ⟨_, hide rfl⟩
  obtain ⟨er, her⟩ : ∃ x, Hid (G.err = x) := ⟨_, hide rfl⟩
  rw [hU.out] at heq
  simp only [hU.out, hrs.out, her.out] at cg ch
  obtain ⟨q, hq⟩ : ∃ q, Hid (reqL c n s t = q) := ⟨_, hide rfl⟩
  rw [hq.out] at hB1 hR1 hz1 hiq ⊢
  simp only [hq.out] at cp cq hq0
  clear hL ht' hGG hU hrs her hF hq ht htb hc hn
  go_enter Tryd.func5, Tryd.ntmps5
  go_upto_region 1 with fail
  go_name_world w0 hw0
  rw [hw0] at hB1 hR1 hz1
  clear hw0
  obtain ⟨Y, hY⟩ : ∃ Y, Hid (w.heap.size = Y) := ⟨_, hide rfl⟩
  rw [hY.out] at hR1 hz1 ⊢
  obtain ⟨q0, q1, q2⟩ := hq0 w0 Y hR1
  try simp only [Act.put]
  by_cases hlong : 2000 < zs.length
  · have hli : (2000 : Int) < zs.length := by omega
    go_wp2_with (go_at_call 8; refine (lives6_any _ (hG.below hB1)).mono ?_; rintro e w9 ⟨rfl, hw9⟩)
    go_ret
    exact ⟨rfl, hB1.trans (hw9.mono hB1.size)⟩
  · have hli : decide ((2000 : Int) < (zs.length : Int)) = false := decide_eq_false (by omega)
    by_cases hls : 2000 < s.size
    · have hls' : (2000 : Int) < s.size := by omega
      go_wp2_with (go_at_call 8; refine (lives6_any _ (hG.below hB1)).mono ?_; rintro e w9 ⟨rfl, hw9⟩)
      go_ret
      exact ⟨rfl, hB1.trans (hw9.mono hB1.size)⟩
    · have hls' : decide ((2000 : Int) < (s.size : Int)) = false := decide_eq_false (by omega)
      have lF := lF (by omega) (by omega)
      have cp := fun w0 h0 => cp w0 h0 (by omega) (by omega)
      have cq := fun w0 h0 => cq w0 h0 (by omega) (by omega)
      have hwY : w.heap.size ≤ Y := by rw [hY.out]; exact Nat.le_refl _
      go_wp2_with fail
      refine (read_any a cap zs w0 (h.below hB1) (by omega)).mono ?_
      rintro e w1 ⟨R, rfl, hR, sR, hb1⟩
      have hA1 := range_below hR1 hb1 hz1
      have hB1' := hB1.trans (hb1.mono hB1.size)
      have hs1 : Y < w1.heap.size := by have := hb1.size; omega
      have hR1' := sR.1.1
      go_wp2_with fail
      refine (refRead_any a cap zs w1 (h.below hB1') (by omega)).mono ?_
      rintro e w2 ⟨X, rfl, hX, sX, hb2⟩
      have hA2 := range_below hA1 hb2 hs1
      have hB2 := hB1'.trans (hb2.mono hB1'.size)
      have hs2 : Y < w2.heap.size := by have := hb2.size; omega
      have sR2 := sR.below hb2
      have hXl := RSt.lt sX
      have hYR : Y < R := by omega
      have hRX : R < X := by omega
      obtain ⟨D, hD⟩ : ∃ D, w1.heap.size = D := ⟨_, rfl⟩
      rw [hD] at sX hR1' hX
      clear hD sR hR1 hB1 hb1 hA1 hB1' hb2 hs1 hR hz1 q0 q1 q2 hq0
      go_wp2_with fail
      obtain ⟨w8, hw8⟩ : ∃ w8, w2.drew = w8 := ⟨_, rfl⟩
      refine hs_begin (S := (KR w Y q [] F [])) 36 rfl (by kernel_rfl) ?_
      have hS : (KR w Y q [] F []) w8 := by rw [← hw8]; exact ⟨⟨(World.rangeAt_drew _ _ _ _).2 hA2, hB2.drew, hs2⟩, by simp, by simp⟩
      have sR8 : St w8 R zs 0 := by rw [← hw8]; exact sR2.below (Below.refl _ _).drew
      have sX8 : RSt D w8 X zs 0 := by rw [← hw8]; exact sX.below (Below.refl _ _).drew
      have hX8 : X < w8.heap.size := by rw [← hw8]; exact hXl
      rw [hw8]
      clear hw8 hA2 hB2 hs2 sR2 sX hXl
      refine hs_take (i := 0) (d := some 21) (v := ?_) rfl (by kernel_rfl) (by kernel_rfl) (by kernel_rfl) (by rfl) ?_ hS rfl ?_
      rotate_left
      · intro w' hw
        go_simp
        try with_reducible rfl
      simp only [Act.put, List.setIfInBounds_toArray, List.set_cons_zero, List.set_cons_succ]
      refine hs_take (i := 1) (d := some 22) (v := .agg q.toArray) rfl (by kernel_rfl) (by kernel_rfl) (by kernel_rfl) (by rfl) (fun w' hw => exec_load rfl rfl (run_loadVar_mid (P := Tryd.prog) w' Y 0 33 q _ hw.1.1 Tryd.underlying33 rfl hiq)) hS rfl ?_
      simp only [Act.put, List.setIfInBounds_toArray, List.set_cons_zero, List.set_cons_succ]
      refine hs_take (i := 4) (d := some 25) (v := ?_) rfl (by kernel_rfl) (by kernel_rfl) (by kernel_rfl) (by rfl) ?_ hS rfl ?_
      rotate_left
      · intro w' hw
        go_simp
        try with_reducible rfl
      simp only [Act.put, List.setIfInBounds_toArray, List.set_cons_zero, List.set_cons_succ]
      refine hs_take (i := 5) (d := some 26) (v := .agg q.toArray) rfl (by kernel_rfl) (by kernel_rfl) (by kernel_rfl) (by rfl) (fun w' hw => exec_load rfl rfl (run_loadVar_mid (P := Tryd.prog) w' Y 0 33 q _ hw.1.1 Tryd.underlying33 rfl hiq)) hS rfl ?_
      simp only [Act.put, List.setIfInBounds_toArray, List.set_cons_zero, List.set_cons_succ]
      refine hs_call (i := 2) (d := some 23) rfl (by kernel_rfl) (by rfl) (by go_simp; first | done | exact ⟨rfl, rfl⟩ | with_reducible rfl) rfl ?_
      refine (cp w8 (h.below hS.1.2.1)).mono ?_
      rintro e' w9 ⟨v9, rfl, m9, b9⟩
      have hS : (KR w Y q [] F []) w9 := hS.on b9
      refine ⟨_, rfl, hS, ?_⟩
      simp only [Act.put, List.setIfInBounds_toArray, List.set_cons_zero, List.set_cons_succ]
      have lo9 := fun a cap (hv : v9 = .slice a F.length cap) => mine_loR (hv ▸ m9)
      obtain ⟨a9, cap9, rfl, _, _, row9⟩ := m9.rowAt (by unfold maxLen; omega)
      have lo9 := lo9 a9 cap9 rfl
      have sR9 := sR8.below b9
      have sX9 := sX8.below b9
      have hX9 : X < w9.heap.size := by have := b9.size; omega
      have hlo9 : ∀ x, a9 = some x → X < x.block := fun x hx => by have := lo9 x hx; omega
      clear cp m9 lo9 sR8 sX8 b9
      have hS : (KR w Y q [a9] F []) w9 := ⟨hS.1, by intro a ha; rw [List.mem_singleton.1 ha]; exact row9, by simp⟩
      refine hs_moreR (S' := (KR w Y q [a9] F [])) (fun _ hh => KR.less hh (by simp) (by simp)) _ _ _ _ ?_
      clear row9
      refine hs_take (i := 3) (d := some 24) (v := .string (strOf F)) rfl (by kernel_rfl) (by kernel_rfl) (by kernel_rfl) (by rfl) (fun w' hw => by have z1 := (hw.2.1 a9 (by simp)).str cap9; go_simp) hS rfl ?_
      simp only [Act.put, List.setIfInBounds_toArray, List.set_cons_zero, List.set_cons_succ]
      refine hs_call (i := 6) (d := some 27) rfl (by kernel_rfl) (by rfl) (by go_simp; first | done | exact ⟨rfl, rfl⟩ | with_reducible rfl) rfl ?_
      refine (cq w9 (h.below hS.1.2.1)).mono ?_
      rintro e' w10 ⟨v10, rfl, m10, b10⟩
      have hS : (KR w Y q [a9] F []) w10 := hS.on b10
      refine ⟨_, rfl, hS, ?_⟩
      simp only [Act.put, List.setIfInBounds_toArray, List.set_cons_zero, List.set_cons_succ]
      have lo10 := fun a cap (hv : v10 = .slice a F.length cap) => mine_loR (hv ▸ m10)
      obtain ⟨a10, cap10, rfl, _, _, row10⟩ := m10.rowAt (by unfold maxLen; omega)
      have lo10 := lo10 a10 cap10 rfl
      have sR10 := sR9.below b10
      have sX10 := sX9.below b10
      have hX10 : X < w10.heap.size := by have := b10.size; omega
      have hlo10 : ∀ x, a10 = some x → X < x.block := fun x hx => by have := lo10 x hx; omega
      clear cq m10 lo10 sR9 sX9 b10
      have hS : (KR w Y q [a9, a10] F []) w10 := ⟨hS.1, by intro a ha; rcases List.mem_cons.1 ha with rfl | ha; exact hS.2.1 _ (by simp); rw [List.mem_singleton.1 ha]; exact row10, by simp⟩
      refine hs_moreR (S' := (KR w Y q [a9, a10] F [])) (fun _ hh => KR.less hh (by simp) (by simp)) _ _ _ _ ?_
      clear row10
      have hneR : ∀ a ∈ [a9, a10], ∀ x, a = some x → x.block ≠ R := by
        intro a ha x hx
        rcases List.mem_cons.1 ha with rfl | ha
        · have := hlo9 x hx; omega
        · rw [List.mem_singleton.1 ha] at hx; have := hlo10 x hx; omega
      have hneX : ∀ a ∈ [a9, a10], ∀ x, a = some x → x.block ≠ X := by
        intro a ha x hx
        rcases List.mem_cons.1 ha with rfl | ha
        · have := hlo9 x hx; omega
        · rw [List.mem_singleton.1 ha] at hx; have := hlo10 x hx; omega
      refine hs_take (i := 7) (d := some 28) (v := .string (strOf F)) rfl (by kernel_rfl) (by kernel_rfl) (by kernel_rfl) (by rfl) (fun w' hw => by have z1 := (hw.2.1 a10 (by simp)).str cap10; go_simp) hS rfl ?_
      simp only [Act.put, List.setIfInBounds_toArray, List.set_cons_zero, List.set_cons_succ]
      refine hs_take (i := 8) (d := some 29) (v := .bool true) rfl (by kernel_rfl) (by kernel_rfl) (by kernel_rfl) (by rfl) (fun w' hw => by go_simp; first | done | simp) hS rfl ?_
      simp only [Act.put, List.setIfInBounds_toArray, List.set_cons_zero, List.set_cons_succ]
      refine hs_take (i := 9) (d := some 30) (v := ?_) rfl (by kernel_rfl) (by kernel_rfl) (by kernel_rfl) (by rfl) ?_ hS rfl ?_
      rotate_left
      · intro w' hw
        go_simp
        try with_reducible rfl
      simp only [Act.put, List.setIfInBounds_toArray, List.set_cons_zero, List.set_cons_succ]
      refine hs_take (i := 10) (d := some 31) (v := ?_) rfl (by kernel_rfl) (by kernel_rfl) (by kernel_rfl) (by rfl) ?_ hS rfl ?_
      rotate_left
      · intro w' hw
        go_simp
        try with_reducible rfl
      simp only [Act.put, List.setIfInBounds_toArray, List.set_cons_zero, List.set_cons_succ]
      refine hs_take (i := 12) (d := some 33) (v := ?_) rfl (by kernel_rfl) (by kernel_rfl) (by kernel_rfl) (by rfl) ?_ hS rfl ?_
      rotate_left
      · intro w' hw
        go_simp
        try with_reducible rfl
      simp only [Act.put, List.setIfInBounds_toArray, List.set_cons_zero, List.set_cons_succ]
      refine hs_call (i := 11) (d := some 32) rfl (by kernel_rfl) (by rfl) (by go_simp; first | done | exact ⟨rfl, rfl⟩ | with_reducible rfl) rfl ?_
      refine (cg R w10 sR10 (by omega)).mono ?_
      rintro e' w11 ⟨rfl, sR11, g11⟩
      have hS : (KR w Y q [a9, a10] F []) w11 := hS.gb g11 hYR hwY hneR
      refine ⟨_, rfl, hS, ?_⟩
      simp only [Act.put, List.setIfInBounds_toArray, List.set_cons_zero, List.set_cons_succ]
      have sX11 := sX10.gb g11 (.inl ⟨by omega, by omega⟩)
      clear cg sR10 sX10
      refine hs_call (i := 13) (d := some 34) rfl (by kernel_rfl) (by rfl) (by go_simp; first | done | exact ⟨rfl, rfl⟩ | with_reducible rfl) rfl ?_
      refine (ch D X w11 sX11).mono ?_
      rintro e' w12 ⟨rfl, sX12, g12⟩
      have hS : (KR w Y q [a9, a10] F []) w12 := hS.gb g12 (by omega) hwY hneX
      refine ⟨_, rfl, hS, ?_⟩
      simp only [Act.put, List.setIfInBounds_toArray, List.set_cons_zero, List.set_cons_succ]
      have sR12 := sR11.gb g12 hRX
      have x2 := RSt.cell2 sX12
      clear ch sR11 sX11 g11 g12
      have hS : (KR w Y q [a9, a10] F [(X, er)]) w12 := ⟨hS.1, hS.2.1, by intro x hx; rw [List.mem_singleton.1 hx]; exact x2⟩
      refine hs_moreR (S' := (KR w Y q [a9, a10] F [(X, er)])) (fun _ hh => KR.less hh (by simp) (by simp)) _ _ _ _ ?_
      clear x2
      have ce := err_made R er w12 sR12.1
      have cl := leftR_any R rest er w12 sR12
      have cm := refLeft_any X rest er w12 sX12
      obtain ⟨lv, hlv⟩ : ∃ lv, Hid ((if er = 0 then (rest.length : Int) else 0) = lv) := ⟨_, hide rfl⟩
      rw [hlv.out] at cl cm
      clear hlv
      refine hs_take (i := 14) (d := some 35) (v := .bool true) rfl (by kernel_rfl) (by kernel_rfl) (by kernel_rfl) (by rfl) (fun w' hw => by have z1 := heq w'; go_simp) hS rfl ?_
      simp only [Act.put, List.setIfInBounds_toArray, List.set_cons_zero, List.set_cons_succ]
      refine hs_take (i := 15) (d := some 36) (v := ?_) rfl (by kernel_rfl) (by kernel_rfl) (by kernel_rfl) (by rfl) ?_ hS rfl ?_
      rotate_left
      · intro w' hw
        go_simp
        try with_reducible rfl
      simp only [Act.put, List.setIfInBounds_toArray, List.set_cons_zero, List.set_cons_succ]
      refine hs_take (i := 16) (d := some 37) (v := ?_) rfl (by kernel_rfl) (by kernel_rfl) (by kernel_rfl) (by rfl) ?_ hS rfl ?_
      rotate_left
      · intro w' hw
        go_simp
        try with_reducible rfl
      simp only [Act.put, List.setIfInBounds_toArray, List.set_cons_zero, List.set_cons_succ]
      refine hs_take (i := 17) (d := some 38) (v := ?_) rfl (by kernel_rfl) (by kernel_rfl) (by kernel_rfl) (by rfl) ?_ hS rfl ?_
      rotate_left
      · intro w' hw
        go_simp
        try with_reducible rfl
      simp only [Act.put, List.setIfInBounds_toArray, List.set_cons_zero, List.set_cons_succ]
      refine hs_take (i := 19) (d := some 40) (v := ?_) rfl (by kernel_rfl) (by kernel_rfl) (by kernel_rfl) (by rfl) ?_ hS rfl ?_
      rotate_left
      · intro w' hw
        go_simp
        try with_reducible rfl
      simp only [Act.put, List.setIfInBounds_toArray, List.set_cons_zero, List.set_cons_succ]
      refine hs_take (i := 20) (d := some 41) (v := ?_) rfl (by kernel_rfl) (by kernel_rfl) (by kernel_rfl) (by rfl) ?_ hS rfl ?_
      rotate_left
      · intro w' hw
        go_simp
        try with_reducible rfl
      simp only [Act.put, List.setIfInBounds_toArray, List.set_cons_zero, List.set_cons_succ]
      refine hs_take (i := 21) (d := some 42) (v := ?_) rfl (by kernel_rfl) (by kernel_rfl) (by kernel_rfl) (by rfl) ?_ hS rfl ?_
      rotate_left
      · intro w' hw
        go_simp
        try with_reducible rfl
      simp only [Act.put, List.setIfInBounds_toArray, List.set_cons_zero, List.set_cons_succ]
      refine hs_take (i := 22) (d := some 43) (v := .int .i64 er) rfl (by kernel_rfl) (by kernel_rfl) (by kernel_rfl) (by rfl) (fun w' hw => by have z1 : w'.cell? ⟨X, 2, none⟩ = some (.int .i64 er) := hw.2.2 (X, er) (by simp); go_simp) hS rfl ?_
      simp only [Act.put, List.setIfInBounds_toArray, List.set_cons_zero, List.set_cons_succ]
      refine hs_call (i := 18) (d := some 39) rfl (by kernel_rfl) (by rfl) (by go_simp; first | done | exact ⟨rfl, rfl⟩ | with_reducible rfl) rfl ?_
      refine (ce).mono ?_
      rintro e' w13 ⟨rfl, hx⟩
      have hS : (KR w Y q [a9, a10] F [(X, er)]) w13 := by rw [hx]; exact hS
      refine ⟨_, rfl, hS, ?_⟩
      simp only [Act.put, List.setIfInBounds_toArray, List.set_cons_zero, List.set_cons_succ]
      obtain rfl := hx.symm
      clear ce
      refine hs_take (i := 23) (d := some 44) (v := .bool true) rfl (by kernel_rfl) (by kernel_rfl) (by kernel_rfl) (by rfl) (fun w' hw => by go_simp; first | done | simp) hS rfl ?_
      simp only [Act.put, List.setIfInBounds_toArray, List.set_cons_zero, List.set_cons_succ]
      refine hs_take (i := 24) (d := some 45) (v := ?_) rfl (by kernel_rfl) (by kernel_rfl) (by kernel_rfl) (by rfl) ?_ hS rfl ?_
      rotate_left
      · intro w' hw
        go_simp
        try with_reducible rfl
      simp only [Act.put, List.setIfInBounds_toArray, List.set_cons_zero, List.set_cons_succ]
      refine hs_take (i := 25) (d := some 46) (v := ?_) rfl (by kernel_rfl) (by kernel_rfl) (by kernel_rfl) (by rfl) ?_ hS rfl ?_
      rotate_left
      · intro w' hw
        go_simp
        try with_reducible rfl
      simp only [Act.put, List.setIfInBounds_toArray, List.set_cons_zero, List.set_cons_succ]
      refine hs_take (i := 26) (d := some 47) (v := ?_) rfl (by kernel_rfl) (by kernel_rfl) (by kernel_rfl) (by rfl) ?_ hS rfl ?_
      rotate_left
      · intro w' hw
        go_simp
        try with_reducible rfl
      simp only [Act.put, List.setIfInBounds_toArray, List.set_cons_zero, List.set_cons_succ]
      refine hs_take (i := 28) (d := some 49) (v := ?_) rfl (by kernel_rfl) (by kernel_rfl) (by kernel_rfl) (by rfl) ?_ hS rfl ?_
      rotate_left
      · intro w' hw
        go_simp
        try with_reducible rfl
      simp only [Act.put, List.setIfInBounds_toArray, List.set_cons_zero, List.set_cons_succ]
      refine hs_call (i := 27) (d := some 48) rfl (by kernel_rfl) (by rfl) (by go_simp; first | done | exact ⟨rfl, rfl⟩ | with_reducible rfl) rfl ?_
      refine (cl).mono ?_
      rintro e' w13 ⟨rfl, hx⟩
      have hS : (KR w Y q [a9, a10] F [(X, er)]) w13 := by rw [hx]; exact hS
      refine ⟨_, rfl, hS, ?_⟩
      simp only [Act.put, List.setIfInBounds_toArray, List.set_cons_zero, List.set_cons_succ]
      obtain rfl := hx.symm
      clear cl
      refine hs_call (i := 29) (d := some 50) rfl (by kernel_rfl) (by rfl) (by go_simp; first | done | exact ⟨rfl, rfl⟩ | with_reducible rfl) rfl ?_
      refine (cm).mono ?_
      rintro e' w13 ⟨rfl, hx⟩
      have hS : (KR w Y q [a9, a10] F [(X, er)]) w13 := by obtain ⟨k, rfl⟩ := hx; exact hS.on (below_drewNR (Below.refl _ _) k)
      refine ⟨_, rfl, hS, ?_⟩
      simp only [Act.put, List.setIfInBounds_toArray, List.set_cons_zero, List.set_cons_succ]
      clear cm
      refine hs_take (i := 30) (d := some 51) (v := .bool true) rfl (by kernel_rfl) (by kernel_rfl) (by kernel_rfl) (by rfl) (fun w' hw => by go_simp; first | done | simp) hS rfl ?_
      simp only [Act.put, List.setIfInBounds_toArray, List.set_cons_zero, List.set_cons_succ]
      refine hs_take (i := 31) (d := some 52) (v := ?_) rfl (by kernel_rfl) (by kernel_rfl) (by kernel_rfl) (by rfl) ?_ hS rfl ?_
      rotate_left
      · intro w' hw
        go_simp
        try with_reducible rfl
      simp only [Act.put, List.setIfInBounds_toArray, List.set_cons_zero, List.set_cons_succ]
      refine hs_take (i := 32) (d := some 53) (v := ?_) rfl (by kernel_rfl) (by kernel_rfl) (by kernel_rfl) (by rfl) ?_ hS rfl ?_
      rotate_left
      · intro w' hw
        go_simp
        try with_reducible rfl
      simp only [Act.put, List.setIfInBounds_toArray, List.set_cons_zero, List.set_cons_succ]
      refine hs_call (i := 33) (d := some 54) rfl (by kernel_rfl) (by rfl) (by go_simp; first | done | exact ⟨rfl, rfl⟩ | with_reducible rfl) rfl ?_
      refine (lives6_any _ (hG.below hS.1.2.1)).mono ?_
      rintro e' w14 ⟨rfl, hx⟩
      have hS : (KR w Y q [a9, a10] F [(X, er)]) w14 := hS.on hx
      refine ⟨_, rfl, hS, ?_⟩
      simp only [Act.put, List.setIfInBounds_toArray, List.set_cons_zero, List.set_cons_succ]
      refine hs_take (i := 34) (d := some 55) (v := ?_) rfl (by kernel_rfl) (by kernel_rfl) (by kernel_rfl) (by rfl) ?_ hS rfl ?_
      rotate_left
      · intro w' hw
        go_simp
        try with_reducible rfl
      simp only [Act.put, List.setIfInBounds_toArray, List.set_cons_zero, List.set_cons_succ]
      refine hs_take (i := 35) (d := some 4) (v := ?_) rfl (by kernel_rfl) (by kernel_rfl) (by kernel_rfl) (by rfl) ?_ hS rfl ?_
      rotate_left
      · intro w' hw
        go_simp
        try with_reducible rfl
      simp only [Act.put, List.setIfInBounds_toArray, List.set_cons_zero, List.set_cons_succ]
      refine hs_done (by kernel_rfl) ?_
      go_wp2_with fail
      go_ret
      exact ⟨rfl, by first | exact hS.1.2.1 | (rw [← hY.out]; exact hS.1.2.1)⟩
end Go.Proofs.YtbfhpgneaklgoabDoor
namespace Go.Proofs.YtbfhpgneaklgoabDoor.requestReads
open Go.ChangeShapes Go.WideShapes Go.ChangeAt Go.RowKit
open Go.ChangeMaps (open_string shut_string)
set_option linter.unusedVariables false
set_option maxRecDepth 100000 in
theorem lifted (os : Os) (started : os.Started) (H : Type) (enc : TypeId × Value → H) :
    ReturnsInHanded {} Tryd.checked os 5 .any (fun w args => (Rows.requestReadsSpec.pre enc Tryd.prog Tryd.f5 [] false w args ∧ laidMetH Tryd.prog laid2 w) ∧ sizedMet enc Tryd.prog Tryd.f5 (OpenSpec.ofChange Rows.requestReadsSpec) false w args)
      (Rows.requestReadsSpec.post enc Tryd.prog Tryd.f5 false true false false) := by
  refine returnsInHanded_of_change_and (C := Tryd.checked) (X := fun w _ => laidMetH Tryd.prog laid2 w) (fun _ _ _ hh h => h.of_heap hh) own started (by kernel_rfl) Tryd.func5
    (ChangeSpec.witness_shaped (enc := enc) (C := Tryd.checked) (os := os) (X := fun w _ => laidMetH Tryd.prog laid2 w) false (World.doorLaid Tryd.prog 400 os) #[.slice none 0 0, .agg #[.int .i64 0, .int .i64 0, .string ByteArray.empty, .int .u8 0, .int .u8 0, .int .u8 0, .int .u8 0, .int .u8 0, .int .u8 0, .int .u8 0, .int .u8 0, .int .u8 0, .int .u8 0, .int .u8 0, .int .u8 0, .int .u8 0, .int .u8 0, .int .u8 0, .int .u8 0]] 8 rfl (World.shaped_of_RefB (by kernel_rfl) (by kernel_rfl)) (by kernel_rfl) (by kernel_rfl) (by kernel_rfl) (door_met os _)) ?_
  intro W base args ds gs before hval0 hW _ _ hL _
  have hval : ∀ (j : Nat) t v, Tryd.f5.params[j]? = some t → args[j]? = some v → Value.okWide Tryd.prog W .any base t v := hval0
  have hW' := hW
  obtain ⟨p, q, hA0, hV, rfl, hfz, hnd⟩ := hW
  have hA : DataW.TrodAll enc Tryd.prog W 0 (fun _ => true) true Tryd.f5.params.toList args.toList ds p := hA0
  rw [Tryd.params5] at hA hval
  obtain ⟨v0, vs0, d0, ds0, p0, q0, hargs, rfl, rfl, h0, r0⟩ := trodAll_cons hA
  obtain ⟨v1, vs1, d1, ds1, p1, q1, rfl, rfl, rfl, h1, r1⟩ := trodAll_cons r0
  obtain ⟨rfl, rfl, rfl⟩ := trodAll_nil r1
  obtain rfl : args = #[v0, v1] := by cases args; simp_all
  obtain ⟨rfl, rfl⟩ := trodVars_none hV
  have k0 := h0
  have lt0 : ∀ x ∈ p0, x.block < W.heap.size := by obtain ⟨m, hm⟩ := k0; exact DataW.trod_lt m _ _ _ hm
  have k1 := h1
  have lt1 : ∀ x ∈ p1, x.block < W.heap.size := by obtain ⟨m, hm⟩ := k1; exact DataW.trod_lt m _ _ _ hm
  obtain ⟨a0, len0, cap0, rfl⟩ := okWide_slice Tryd.underlying45 (hval 0 45 v0 rfl rfl)
  obtain ⟨z0, w0⟩ : ∃ zs, IsRow .u8 W a0 len0 cap0 zs := by
    obtain ⟨fuel, hf⟩ := h0
    rcases open_ints Tryd.underlying45 Tryd.underlying5 (by kernel_rfl) hf with ⟨hcs, _⟩ | ⟨x, l, c, zs, hcs, _, hl, hm, hz, _, hcell, hwz⟩
    · simp [Value.cells] at hcs
      obtain ⟨rfl, rfl, rfl⟩ := hcs
      exact ⟨[], .inl ⟨rfl, rfl, rfl, rfl⟩⟩
    · simp [Value.cells] at hcs
      obtain ⟨rfl, rfl, rfl⟩ := hcs
      exact ⟨zs, .inr ⟨_, rfl, hl, hm, by simpa using hz, hcell, hwz⟩⟩
  obtain ⟨y0, rfl, hc0, hm0, row0⟩ := w0.rowAt
  obtain ⟨c1, n1, s1, t1, rfl, ht1, hb1, hs1, bc1, bn1⟩ : ∃ (c n : Int) (s : ByteArray) (t : List Int), v1 = .agg (reqL c n s t).toArray ∧ t.length = 16 ∧ (∀ z ∈ t, 0 ≤ z ∧ z < 256) ∧ s.size ≤ maxLen ∧ (-9223372036854775808 ≤ c ∧ c ≤ 9223372036854775807) ∧ (-9223372036854775808 ≤ n ∧ n ≤ 9223372036854775807) := by
    obtain ⟨fuel, hf⟩ := h1
    exact open_req (hval 1 33 v1 rfl rfl) hf
  have hG := glob_of hL
  clear hA0 hval0
  refine (rreads_walk a0 cap0 y0 c1 n1 s1 t1 W hG ht1 hb1 bc1.2 bn1.2 row0).mono fun e W' ⟨he, bel⟩ => ?_
  subst he
  exact ⟨_, rfl, _, _, _, [], _, [], hW', trodAll_mk1 (shut_bool Tryd.underlying4 _), (trodAll_cons_mk (Below.trod laidOut (by kernel_rfl) (of_decide_eq_true (by kernel_rfl)) k0 bel lt0) (trodAll_cons_mk (Below.trod laidOut (by kernel_rfl) (of_decide_eq_true (by kernel_rfl)) k1 bel lt1) trodAll_mk0)), rfl, bel.frame _, fun h => by cases h⟩
theorem over : Rows.RequestReadsSaid :=
  OpenClaim.holds_of_wide 5 Tryd.f5 rfl rfl rfl rfl rfl rfl rfl ⟨rfl, rfl, rfl, rfl, rfl⟩ rfl rfl rfl rfl rfl (by kernel_rfl) Tryd.func5 (by kernel_rfl)
    (of_decide_eq_true (by kernel_rfl)) (by unfold Func.isWrapper; first | (rw [if_pos (by decide +kernel)]; kernel_rfl) | (rw [if_neg (by decide +kernel)]; exact ⟨rfl, rfl⟩))
    (fun os started H enc _ => lifted os started H enc)
end Go.Proofs.YtbfhpgneaklgoabDoor.requestReads
namespace Go.Proofs.YtbfhpgneaklgoabDoor
theorem requestReads_card : Rows.RequestReadsCardSaid :=
  Claim7.holds_tied_plain_at .later [] [.data, .data] true (true, "e8a17cfc549df2a61ef7115ce15364a0f8b0e7d95ae69533530c9a38e0cae92e") false
    requestReads.over (fun _ h => by cases h) (by kernel_rfl) (fun _ h => by cases h) requestReads_row_tie rfl ⟨rfl, rfl⟩ (by kernel_rfl) rfl
    (fun f fn hf hfn => by
      obtain rfl : f = 5 := Option.some.inj ((show Tryd.prog.funcNamed "raddle/raddlelaw06.RequestReads" = some 5 by kernel_rfl).symm.trans hf) |>.symm
      obtain rfl : fn = Tryd.f5 := (Option.some.inj (Tryd.func5.symm.trans hfn)).symm
      exact ⟨by kernel_rfl, fun j t ht => by
        rw [Tryd.params5] at ht
        rcases j with _ | _ | j
        · obtain rfl : t = 45 := by simpa using ht.symm
          exact (show Tryd.prog.wantsStandIn 45 = false by kernel_rfl)
        · obtain rfl : t = 33 := by simpa using ht.symm
          exact (show Tryd.prog.wantsStandIn 33 = false by kernel_rfl)
        · simp at ht⟩)
    (by kernel_rfl)
#print axioms requestReads_card
end Go.Proofs.YtbfhpgneaklgoabDoor
