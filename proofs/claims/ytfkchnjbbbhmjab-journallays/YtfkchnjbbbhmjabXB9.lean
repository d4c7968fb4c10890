/- the journal's contents: turn and records of an area; a journal: Sync, Append; a journal: an area is filled anew -/
import Derived.Test.YtfkchnjbbbhmjabXB8
import Derived.Test.YtfkchnjbbbhmjabXB6
namespace Go.Proofs.Ytfkchnjbbbhmjab.Ty
open Go.RowKit
open Tal
/-- the greatest turn among frames, and the records -/
def turnW (fs : List Fr) : Int := fs.foldl (fun t f => if f.k = 71 then max t (turnN f.zs) else t) 0
def recsW (fs : List Fr) : List (List Int) := (fs.filter (fun f => decide (f.k ≠ 71))).map Fr.zs
def turnP (ps : List (Fr × Rc)) : Int := turnW (ps.map Prod.fst)
def keepP (ps : List (Fr × Rc)) : List Rc := (ps.filter (fun p => decide (p.1.k ≠ 71))).map Prod.snd
theorem keepP_zs : ∀ (fs : List Fr) (rs : List Rc), rs.map Rc.zs = fs.map Fr.zs → (keepP (fs.zip rs)).map Rc.zs = recsW fs
  | [], [], _ => rfl
  | [], _ :: _, h => by simp at h
  | _ :: _, [], h => by simp at h
  | f :: fs, r :: rs, h => by
    simp only [List.map_cons, List.cons.injEq] at h
    have ih := keepP_zs fs rs h.2
    unfold keepP recsW at ih ⊢
    rw [List.zip_cons_cons]
    by_cases q : f.k = 71
    · rw [List.filter_cons_of_neg (by simp [q]), List.filter_cons_of_neg (by simp [q])]
      exact ih
    · rw [List.filter_cons_of_pos (by simp [q]), List.filter_cons_of_pos (by simp [q]), List.map_cons, List.map_cons, List.map_cons, ih, h.1]
theorem turnP_zip (fs : List Fr) (rs : List Rc) (h : fs.length = rs.length) : turnP (fs.zip rs) = turnW fs := by
  unfold turnP
  rw [List.map_fst_zip (by omega)]
theorem turnP_step (ps : List (Fr × Rc)) (k : Nat) (h : k < ps.length) : turnP (ps.take (k + 1)) = if ps[k].1.k = 71 then max (turnP (ps.take k)) (turnN ps[k].1.zs) else turnP (ps.take k) := by
  unfold turnP turnW
  rw [List.take_succ_eq_append_getElem h, List.map_append, List.foldl_append]
  rfl
theorem keepP_step (ps : List (Fr × Rc)) (k : Nat) (h : k < ps.length) : keepP (ps.take (k + 1)) = if ps[k].1.k = 71 then keepP (ps.take k) else keepP (ps.take k) ++ [ps[k].2] := by
  unfold keepP
  rw [List.take_succ_eq_append_getElem h, List.filter_append, List.map_append]
  by_cases q : ps[k].1.k = 71
  · rw [if_pos q, List.filter_cons_of_neg (by simp [q])]; simp
  · rw [if_neg q, List.filter_cons_of_pos (by simp [q])]; simp
theorem keepP_mem {ps : List (Fr × Rc)} {x : Rc} (h : x ∈ keepP ps) : ∃ p ∈ ps, p.2 = x := by
  unfold keepP at h
  obtain ⟨p, hp, e⟩ := List.mem_map.1 h
  exact ⟨p, (List.mem_filter.1 hp).1, e⟩
theorem keepP_len (ps : List (Fr × Rc)) : (keepP ps).length ≤ ps.length := by
  unfold keepP
  rw [List.length_map]
  exact List.length_filter_le _ _
theorem turnN_ge (zs : List Int) (h : ∀ z ∈ zs, 0 ≤ z ∧ z < 256) : 0 ≤ turnN zs ∧ turnN zs ≤ 1099511627776 := by
  unfold turnN
  split
  · have := numS_max zs h
    unfold numS
    have hn := numR_nonneg zs h
    split
    · split
      · split
        · simp
        · simp only
          omega
      · simp
    · simp
  · simp
theorem turnW_ge (fs : List Fr) (h : ∀ f ∈ fs, ∀ z ∈ f.zs, 0 ≤ z ∧ z < 256) : 0 ≤ turnW fs ∧ turnW fs ≤ 1099511627776 := by
  have key : ∀ (fs : List Fr) (t : Int), (∀ f ∈ fs, ∀ z ∈ f.zs, 0 ≤ z ∧ z < 256) → 0 ≤ t ∧ t ≤ 1099511627776 → 0 ≤ fs.foldl (fun t f => if f.k = 71 then max t (turnN f.zs) else t) t ∧ fs.foldl (fun t f => if f.k = 71 then max t (turnN f.zs) else t) t ≤ 1099511627776 := by
    intro fs
    induction fs with
    | nil => intro t _ h; exact h
    | cons f fs ih =>
      intro t hf ht
      rw [List.foldl_cons]
      refine ih _ (fun g hg => hf g (by simp [hg])) ?_
      have := turnN_ge f.zs (hf f (by simp))
      split <;> omega
  exact key fs 0 h (by omega)
theorem fits_mem {bs : List Int} (hz : ∀ z ∈ bs, 0 ≤ z ∧ z < 256) : ∀ f ∈ fitsW bs, f.zs.length ≤ bs.length ∧ ∀ z ∈ f.zs, 0 ≤ z ∧ z < 256 := by
  generalize hn : bs.length = n
  induction n using Nat.strongRecOn generalizing bs with
  | _ n ih =>
    rw [fitsW_step hz]
    cases hf : fitW bs with
    | none => simp
    | some f =>
      obtain ⟨l1, l2⟩ := fitW_len hz hf
      obtain ⟨-, -, k3, k4⟩ := fitW_kind hz hf
      intro g hg
      rcases List.mem_cons.1 hg with rfl | hg
      · exact ⟨by omega, k3⟩
      · have := ih (bs.length - f.n) (by omega) (bs := bs.drop f.n) (fun z hh => hz z (List.mem_of_mem_drop hh)) (by rw [List.length_drop]) g hg
        exact ⟨by omega, this.2⟩
theorem frames_mem {bs : List Int} (hz : ∀ z ∈ bs, 0 ≤ z ∧ z < 256) : ∀ f ∈ framesW bs, f.zs.length ≤ bs.length ∧ ∀ z ∈ f.zs, 0 ≤ z ∧ z < 256 := fun f hf => by
  rw [framesW_fits hz] at hf
  exact fits_mem hz f ((List.takeWhile_sublist _).subset hf)
/-- records in a row of one's own -/
structure ROwn (B : Nat) (w : World) (v : Value) (rs : List Rc) : Prop where
  r : w.ownsRow B 34 1 v rs.length (rs.map Rc.val)
  rows : ∀ x ∈ rs, RowAt w x.a x.zs
  len : ∀ x ∈ rs, x.zs.length ≤ x.cap ∧ x.cap ≤ maxLen
  off : ∀ x ∈ rs, ∀ ad, x.a = some ad → B ≤ ad.block ∧ ad.block < w.heap.size ∧ v.ownBlock ≠ some ad.block
theorem ROwn.nil (B : Nat) (w : World) : ROwn B w (.slice none 0 0) [] := ⟨World.ownsRow_nil _ _ _ _, by simp, by simp, by simp⟩
theorem ROwn.below {B : Nat} {w w' : World} {v : Value} {rs : List Rc} (h : ROwn B w v rs) (hb : Below w.heap.size w w') : ROwn B w' v rs :=
  ⟨h.r.kept (gb_below hb none) (own_or _), fun x hx => (h.rows x hx).below hb, h.len, fun x hx ad q => ⟨(h.off x hx ad q).1, Nat.lt_of_lt_of_le (h.off x hx ad q).2.1 hb.size, (h.off x hx ad q).2.2⟩⟩
theorem ROwn.lower {B B' : Nat} {w : World} {v : Value} {rs : List Rc} (h : ROwn B w v rs) (hb : B' ≤ B) : ROwn B' w v rs := ⟨ownsRow_low h.r hb, h.rows, h.len, fun x hx ad q => ⟨Nat.le_trans hb (h.off x hx ad q).1, (h.off x hx ad q).2⟩⟩
theorem ROwn.add {B : Nat} {w w' : World} {v v' : Value} {rs : List Rc} {y : Rc} (h : ROwn B w v rs) (hy : RowAt w y.a y.zs) (hl : y.zs.length ≤ y.cap ∧ y.cap ≤ maxLen) (ho : ∀ ad, y.a = some ad → B ≤ ad.block ∧ ad.block < w.heap.size ∧ v.ownBlock ≠ some ad.block)
    (hown : w'.ownsRow B 34 1 v' (rs.length + 1) (rs.map Rc.val ++ [Rc.val y])) (hg : w.grownBy w' v.ownBlock) (hap : ∀ g, v'.ownBlock = some g → v.ownBlock = some g ∨ g = w.heap.size) : ROwn B w' v' (rs ++ [y]) := by
  have hoff : ∀ x ∈ rs ++ [y], ∀ ad, x.a = some ad → B ≤ ad.block ∧ ad.block < w.heap.size ∧ v.ownBlock ≠ some ad.block := fun x hx ad q => by
    rcases List.mem_append.1 hx with hx | hx
    · exact h.off x hx ad q
    · rw [List.mem_singleton.1 hx] at q; exact ho ad q
  have hrow : ∀ x ∈ rs ++ [y], RowAt w x.a x.zs := fun x hx => by
    rcases List.mem_append.1 hx with hx | hx
    · exact h.rows x hx
    · rw [List.mem_singleton.1 hx]; exact hy
  refine ⟨by simpa using hown, fun x hx => RowAt_gbo (hrow x hx) hg (fun ad q => (hoff x hx ad q).2.2), fun x hx => ?_, fun x hx ad q => ?_⟩
  · rcases List.mem_append.1 hx with hx | hx
    · exact h.len x hx
    · rw [List.mem_singleton.1 hx]; exact hl
  · obtain ⟨o1, o2, o3⟩ := hoff x hx ad q
    refine ⟨o1, Nat.lt_of_lt_of_le o2 hg.size, fun q1 => ?_⟩
    rcases hap _ q1 with q2 | q2
    · exact o3 q2
    · omega
theorem ROwn.recs {B : Nat} {w : World} {v : Value} {rs : List Rc} (h : ROwn B w v rs) (hl : rs.length ≤ 100000000) : ∃ a cap, v = .slice a rs.length cap ∧ Recs w a rs ∧ rs.length ≤ cap ∧ (∀ x, a = some x → B ≤ x.block ∧ x.block < w.heap.size) := by
  rcases own_range h.r with ⟨q, h0, _⟩ | ⟨g, cap, q, hb, hg, hn, hcm, hr⟩
  · exact ⟨none, 0, by rw [q, h0], ⟨hl, .inl (List.eq_nil_of_length_eq_zero h0), h.rows⟩, by omega, fun x hx => by cases hx⟩
  · exact ⟨_, cap, q, ⟨hl, .inr ⟨g, 0, rfl, hg, hr⟩, h.rows⟩, hn, fun x hx => by cases hx; exact ⟨hb, hg⟩⟩
set_option maxRecDepth 100000 in
set_option maxHeartbeats 8000000 in
theorem contents_any (a : Option Addr) (cap : Nat) (bs : List Int) (w : World) (hrow : RowAt w a bs) (hc : bs.length ≤ cap) (hcm : cap ≤ maxLen) (hl : bs.length ≤ 100000000) :
    Calls Try.prog 38 #[.slice a bs.length cap] w fun e w' => (∃ v rs, e = .returned (.tuple #[.int .i64 (turnW (framesW bs)), v]) ∧ ROwn w.heap.size w' v rs ∧ rs.map Rc.zs = recsW (framesW bs) ∧ rs.length ≤ bs.length) ∧ Below w.heap.size w w' := by
  have cF := frames_any a cap bs w hrow hc hcm hl
  have hfl : (framesW bs).length ≤ bs.length := by
    rw [framesW_fits hrow.2.1]
    exact Nat.le_trans (List.takeWhile_sublist _).length_le (fitsW_len hrow.2.1)
  have hfm := frames_mem hrow.2.1
  obtain ⟨fs, hfs⟩ : ∃ fs, Hid (framesW bs = fs) := ⟨_, hide rfl⟩
  rw [hfs.out] at cF hfl hfm ⊢
  clear hfs
  obtain ⟨i1, hj, hj0, hj1, hj2⟩ := info_parts infoS
  go_enter Try.func38, Try.ntmps38
  go_wp2_with fail
  refine cF.mono ?_
  rintro e w1 ⟨⟨vk, vr, rs, rfl, hO, hzs, hlen⟩, hB1⟩
  clear cF
  have hrl : rs.length = fs.length := by simpa using congrArg List.length hzs
  obtain ⟨ar, cr, rfl, hR⟩ := hO.recs (by omega)
  have hkb := own_bytes hO.k hO.kb (by rw [List.length_map]; unfold maxLen; omega)
  obtain ⟨ak, ck, rfl, -, -, hK⟩ := hkb
  rw [List.length_map]
  obtain ⟨ps, hps⟩ : ∃ ps, Hid (fs.zip rs = ps) := ⟨_, hide rfl⟩
  have hpl : Hid (ps.length = fs.length) := hide (by rw [← hps.out, List.length_zip]; omega)
  have hpk : ∀ k (h : k < fs.length) (h' : k < ps.length), ps[k].1 = fs[k] ∧ ps[k].2 = rs[k]'(by omega) := fun k h h' => by
    have : ps[k]? = (fs.zip rs)[k]? := by rw [hps.out]
    rw [List.getElem?_eq_getElem h', List.getElem?_eq_getElem (by rw [List.length_zip]; omega)] at this
    simp only [Option.some.injEq] at this
    rw [this, List.getElem_zip]
    exact ⟨rfl, rfl⟩
  go_wp2_with fail
  go_loopw [2, 3, 15] (fun tv v iv wr => ∃ (k : Nat) (t : Int), k ≤ fs.length ∧ iv = .int .i64 (k : Int) ∧ tv = .int .i64 t ∧ Hid (t = turnP (ps.take k)) ∧ ROwn w.heap.size wr v (keepP (ps.take k)) ∧ Below w1.heap.size w1 wr ∧ Hid (∀ g, v.ownBlock = some g → w1.heap.size ≤ g)) (fun _ _ iv _ => fs.length - (intOf iv).toNat)
  case atStart => exact ⟨0, 0, by omega, rfl, rfl, hide (by simp [turnP, turnW]), by simpa [keepP] using ROwn.nil _ _, Below.refl _ _, hide (by simp [Value.ownBlock])⟩
  case round =>
    obtain ⟨k, t, hk, rfl, rfl, hT, hW, hB, hV⟩ := hrel
    by_cases hlt : k < fs.length
    · have hlt' : k < ps.length := by rw [hpl.out]; exact hlt
      obtain ⟨p1, p2⟩ := hpk k hlt hlt'
      obtain ⟨b1, o1, hA1, hb1, hc1, hz0, hz1⟩ := hK.get k (by rw [List.length_map]; exact hlt)
      obtain ⟨b2, o2, hA2, hb2, hc2, hr2⟩ := hR.get k (by omega)
      have T1 := turnP_step ps k hlt'
      have K1 := keepP_step ps k hlt'
      have hzz : fs[k].zs = (rs[k]'(by omega)).zs := by
        have q := congrArg (·[k]?) hzs
        simp only [List.getElem?_map] at q
        rw [List.getElem?_eq_getElem hlt, List.getElem?_eq_getElem (by omega)] at q
        simpa using q.symm
      have hkk : (fs.map Fr.k).getD k 0 = fs[k].k := by
        rw [List.getD_eq_getElem?_getD, List.getElem?_map, List.getElem?_eq_getElem hlt]
        rfl
      simp only [p1, p2] at T1 K1
      rw [hzz] at T1
      rw [hkk] at hc1 hz0 hz1
      have hxm := hfm _ (List.getElem_mem hlt)
      rw [hzz] at hxm
      have hxm := hxm.1
      have hxo := hO.off _ (List.getElem_mem (show k < rs.length by omega))
      have hxl := hlen _ (List.getElem_mem (show k < rs.length by omega))
      generalize fs[k].k = kk at *
      generalize (rs[k]'(by omega)) = x at *
      obtain ⟨xa, xc, xz⟩ := x
      simp only at T1 K1 hc2 hr2 hxo hxl hxm
      subst hA1 hA2
      have g1 : wr.cell? ⟨b1, o1 + k, none⟩ = some (.int .u8 kk) := (cell_block (hB.block b1 hb1)).1.trans hc1
      have g2 : wr.cell? ⟨b2, o2 + k, none⟩ = some (.slice xa xz.length xc) := (cell_block (hB.block b2 hb2)).1.trans hc2
      have hrx := hr2.below hB
      have HT1 := hide T1
      have HK1 := hide K1
      have hkI : (k : Int) < (fs.length : Int) := by omega
      have hkl : (k : Int) < (rs.length : Int) := by omega
      have hxz : xz.length ≤ 549755813888 := by omega
      clear T1 K1 p1 p2 hzz hkk hc1 hc2 hr2 hpk hR hK hlt' hO hzs
      by_cases k71 : kk = 71
      · subst k71
        have T1 := HT1.out
        have K1 := HK1.out
        rw [if_pos rfl] at T1 K1
        have HT1 := hide T1
        have HK1 := hide K1
        clear T1 K1
        have cT := jturnOf_any xa xc xz wr hrx hxz
        obtain ⟨tn, htn⟩ : ∃ tn, Hid (turnN xz = tn) := ⟨_, hide rfl⟩
        rw [htn.out] at cT
        go_wp2_with fail
        refine cT.mono ?_
        rintro e w2 ⟨rfl, hB2⟩
        clear cT
        have hB' : Below w1.heap.size w1 w2 := hB.trans (hB2.mono hB.size)
        have hW' := hW.below hB2
        by_cases hmx : t < tn
        · have hm1 : max t tn = tn := by omega
          go_wp2
          go_roundw
          case rel =>
            refine ⟨k + 1, tn, by omega, by go_num, by first | rfl | (rw [hm1]), hide (by rw [HT1.out, htn.out, ← hT.out]; exact hm1.symm), by rw [HK1.out]; exact hW', hB', hV⟩
          case measure => simp [intOf]; omega
        · have hm1 : max t tn = t := by omega
          go_wp2
          go_roundw
          case rel =>
            refine ⟨k + 1, t, by omega, by go_num, by first | rfl | (rw [hm1]), hide (by rw [HT1.out, htn.out, ← hT.out]; exact hm1.symm), by rw [HK1.out]; exact hW', hB', hV⟩
          case measure => simp [intOf]; omega
      · have T1 := HT1.out
        have K1 := HK1.out
        rw [if_neg k71] at T1 K1
        have HT1 := hide T1
        have HK1 := hide K1
        clear T1 K1
        have n71 : (kk == 71) = false := by simpa using k71
        have hkp := keepP_len (ps.take k)
        rw [List.length_take] at hkp
        have hws : w.heap.size ≤ wr.heap.size := Nat.le_trans hB1.size hB.size
        go_wp2_with (at_builtin; refine wpList_append_own_src2 _ rfl _ _ 22 22 rfl w.heap.size 34 i1 (.slice none 0 0) 1 24 Try.underlying22 hj hj0 hj1 hj2 rfl _ _ _ rfl (hW.r.alloc _) _ 1 _ rfl (s1_src wr ⟨xa, xc, xz⟩) ?c1 ?c2 ?c3 ?_)
        case c1 => unfold maxLen; omega
        case c2 => omega
        case c3 => (try simp); omega
        intro v2 w2 hown2 hgr2 hap2
        have hbA : Below wr.heap.size wr (wr.alloc (.cells #[Rc.val ⟨xa, xc, xz⟩] 34)) := (Below.refl _ _).alloc (Nat.le_refl _) _
        have hB' : Below w1.heap.size w1 (wr.alloc (.cells #[Rc.val ⟨xa, xc, xz⟩] 34)) := hB.trans (hbA.mono hB.size)
        have hgn : Below w1.heap.size w1 w2 := hB'.grown hgr2 hB'.size (fun g q => hV.out g q)
        have hW' := (hW.below hbA).add (y := ⟨xa, xc, xz⟩) (hrx.below hbA) ⟨hxl.1, hxl.2.1⟩ (fun ad q => ⟨hxl.2.2 ad q, by have := (hxo ad q).1; have := hB'.size; omega, fun q1 => by have := hV.out _ q1; have := (hxo ad q).1; omega⟩) hown2 hgr2 (fun g q => by simpa using hap2 g q)
        go_wp2
        go_roundw
        case rel =>
          refine ⟨k + 1, t, by omega, by go_num, rfl, hide (by rw [HT1.out]; exact hT.out), by rw [HK1.out]; exact hW', hgn, hide (fun g q => by
            rcases hap2 g q with q | q
            · exact hV.out g q
            · have := hB.size; (try simp at q); omega)⟩
        case measure => simp [intOf]; omega
    · obtain rfl : k = fs.length := by omega
      have e1 : Hid (ps.take fs.length = ps) := hide (List.take_of_length_le (by rw [hpl.out]; exact Nat.le_refl _))
      rw [e1.out] at hT hW
      go_wp2
      go_ret2
      refine ⟨⟨_, _, ?_, hW, ?_, ?_⟩, hB1.trans (hB.mono hB1.size)⟩
      · rw [hT.out, ← hps.out, turnP_zip fs rs hrl.symm]
        rfl
      · rw [← hps.out]; exact keepP_zs fs rs hzs
      · have := keepP_len ps
        have := hpl.out
        omega
end Go.Proofs.Ytfkchnjbbbhmjab.Ty
namespace Go.Proofs.Ytfkchnjbbbhmjab
open Go.RowKit
def Mt.jsync (M : Mt) (j : Jv) : Int × Mt := if M.jon j.fs then M.sync j.ar else (150, M)
def Mt.jappend (M : Mt) (j : Jv) (zs : List Int) : Int × Mt := if M.jon j.fs then if zs.length ≤ 4194304 then M.append j.ar (Ty.frameL 68 (strOf zs)) else (3, M) else (150, M)
set_option maxRecDepth 100000 in
set_option maxHeartbeats 4000000 in
theorem jsync_any (j : Jv) (M : Mt) (A : Nat → Prop) (w0 : World) (h : JAt w0 j) (hT : Live A w0 j.p M) (hA : ∀ b, A b → b < w0.heap.size) (hAq : A j.q) :
    Calls Try.prog 13 #[jptr j] w0 fun e w' => e = .returned (.int .i64 (M.jsync j).1) ∧ Live A w' j.p (M.jsync j).2 ∧ JAt w' j ∧ Off (fun b => ¬ A b) w0 w' := by
  have cT := jtakes_any j M A none 0 [] w0 h hT (.inl rfl) (by simp)
  have hq := h.lt
  unfold Mt.jsync
  unfold jptr at *
  cases hon : M.jon j.fs
  · rw [hon, show takesE false [] = 150 from rfl] at cT
    rw [if_neg (by simp)]
    clear hon
    go_enter Try.func13, Try.ntmps13
    go_wp2_with fail
    refine cT.mono ?_
    rintro e w1 ⟨rfl, hB1⟩
    have HF := hide (And.intro (hT.below hB1) (And.intro (h.below hB1) (Off.of_below (F := fun b => ¬ A b) hB1)))
    clear cT h hT
    go_wp2_with fail
    go_ret
    exact ⟨rfl, HF.out⟩
  · rw [hon, show takesE true [] = 0 by unfold takesE; simp] at cT
    rw [if_pos rfl]
    clear hon
    obtain ⟨se, hse⟩ : ∃ se, Hid (M.sync j.ar = se) := ⟨_, hide rfl⟩
    rw [hse.out]
    go_enter Try.func13, Try.ntmps13
    go_wp2_with fail
    refine cT.mono ?_
    rintro e w ⟨rfl, hB1⟩
    clear cT
    have hJ1 := h.below hB1
    go_wp2_with fail
    obtain ⟨w8, hw8⟩ : ∃ w8, w.drew = w8 := ⟨_, rfl⟩
    have B18 : Below w.heap.size w w8 := by rw [← hw8]; exact (Below.refl _ _).drew
    have B8 : Below w0.heap.size w0 w8 := hB1.trans (B18.mono hB1.size)
    have hA8 : ∀ b, A b → b < w8.heap.size := fun b hb => Nat.lt_of_lt_of_le (hA b hb) B8.size
    have hq8 : j.q < w8.heap.size := Nat.lt_of_lt_of_le hq B8.size
    have x0 : ∀ w' : World, w'.heap[j.q]? = w.heap[j.q]? → w'.cell? ⟨j.q, 0, none⟩ = some (.pointer (some ⟨j.p, 0, none⟩)) := fun w' q => (hJ1.at q).cell 0 rfl
    have x1 : ∀ w' : World, w'.heap[j.q]? = w.heap[j.q]? → w'.cell? ⟨j.q, 1, none⟩ = some (.int .i64 j.ar) := fun w' q => (hJ1.at q).cell 1 rfl
    refine hs_begin (S := (fun w' : World => w'.heap[j.q]? = w.heap[j.q]?)) 10 rfl (by kernel_rfl) ?_
    rw [hw8]
    clear hw8
    have hS : (fun w' : World => w'.heap[j.q]? = w.heap[j.q]?) w8 := B18.block _ hJ1.lt
    refine hs_take (i := 0) (d := some 9) (v := ?_) rfl (by kernel_rfl) (by kernel_rfl) (by kernel_rfl) (by rfl) ?_ hS rfl ?_
    rotate_left
    · intro w' hw
      go_simp
      try with_reducible rfl
    simp only [Act.put, List.setIfInBounds_toArray, List.set_cons_zero, List.set_cons_succ]
    refine hs_take (i := 1) (d := some 10) (v := ?_) rfl (by kernel_rfl) (by kernel_rfl) (by kernel_rfl) (by rfl) ?_ hS rfl ?_
    rotate_left
    · intro w' hw
      go_simp
      try with_reducible rfl
    simp only [Act.put, List.setIfInBounds_toArray, List.set_cons_zero, List.set_cons_succ]
    refine hs_take (i := 2) (d := some 11) (v := ?_) rfl (by kernel_rfl) (by kernel_rfl) (by kernel_rfl) (by rfl) ?_ hS rfl ?_
    rotate_left
    · intro w' hw
      go_simp
      try with_reducible rfl
    simp only [Act.put, List.setIfInBounds_toArray, List.set_cons_zero, List.set_cons_succ]
    refine hs_take (i := 3) (d := some 12) (v := ?_) rfl (by kernel_rfl) (by kernel_rfl) (by kernel_rfl) (by rfl) ?_ hS rfl ?_
    rotate_left
    · intro w' hw
      have hc := x0 w' hw
      go_simp
      try with_reducible rfl
    simp only [Act.put, List.setIfInBounds_toArray, List.set_cons_zero, List.set_cons_succ]
    refine hs_take (i := 4) (d := some 13) (v := ?_) rfl (by kernel_rfl) (by kernel_rfl) (by kernel_rfl) (by rfl) ?_ hS rfl ?_
    rotate_left
    · intro w' hw
      go_simp
      try with_reducible rfl
    simp only [Act.put, List.setIfInBounds_toArray, List.set_cons_zero, List.set_cons_succ]
    refine hs_take (i := 5) (d := some 14) (v := ?_) rfl (by kernel_rfl) (by kernel_rfl) (by kernel_rfl) (by rfl) ?_ hS rfl ?_
    rotate_left
    · intro w' hw
      go_simp
      try with_reducible rfl
    simp only [Act.put, List.setIfInBounds_toArray, List.set_cons_zero, List.set_cons_succ]
    refine hs_take (i := 6) (d := some 15) (v := ?_) rfl (by kernel_rfl) (by kernel_rfl) (by kernel_rfl) (by rfl) ?_ hS rfl ?_
    rotate_left
    · intro w' hw
      go_simp
      try with_reducible rfl
    simp only [Act.put, List.setIfInBounds_toArray, List.set_cons_zero, List.set_cons_succ]
    refine hs_take (i := 7) (d := some 16) (v := ?_) rfl (by kernel_rfl) (by kernel_rfl) (by kernel_rfl) (by rfl) ?_ hS rfl ?_
    rotate_left
    · intro w' hw
      have hc := x1 w' hw
      go_simp
      try with_reducible rfl
    simp only [Act.put, List.setIfInBounds_toArray, List.set_cons_zero, List.set_cons_succ]
    refine hs_call (i := 8) (d := some 17) rfl (by kernel_rfl) (by rfl) (by go_simp; first | done | exact ⟨rfl, rfl⟩ | with_reducible rfl) rfl ?_
    refine (live_sync (hT.below B8) hA8 j.ar).mono ?_
    rintro e' wB ⟨rfl, hTB, hOB⟩
    have hS : (fun w' : World => w'.heap[j.q]? = w.heap[j.q]?) wB := (hOB.2 _ hq8 (fun q => q hAq)).trans hS
    refine ⟨_, rfl, hS, ?_⟩
    simp only [Act.put, List.setIfInBounds_toArray, List.set_cons_zero, List.set_cons_succ]
    refine hs_take (i := 9) (d := some 2) (v := ?_) rfl (by kernel_rfl) (by kernel_rfl) (by kernel_rfl) (by rfl) ?_ hS rfl ?_
    rotate_left
    · intro w' hw
      go_simp
      try with_reducible rfl
    simp only [Act.put, List.setIfInBounds_toArray, List.set_cons_zero, List.set_cons_succ]
    refine hs_done (by kernel_rfl) ?_
    rw [hse.out] at hTB
    have HF := hide (And.intro hTB (And.intro (hJ1.at hS) ((Off.of_below (F := fun b => ¬ A b) B8).trans hOB (fun _ _ q => q))))
    rw [hse.out]
    clear hTB hS hOB x0 x1
    go_wp2_with fail
    go_ret
    exact ⟨rfl, HF.out⟩
set_option maxRecDepth 100000 in
set_option maxHeartbeats 4000000 in
theorem jappend_any (j : Jv) (M : Mt) (A : Nat → Prop) (a : Option Addr) (cap : Nat) (zs : List Int) (w0 : World) (h : JAt w0 j) (hT : Live A w0 j.p M) (hA : ∀ b, A b → b < w0.heap.size) (hAq : A j.q) (hz : RowAt w0 a zs) :
    Calls Try.prog 12 #[jptr j, .slice a zs.length cap] w0 fun e w' => e = .returned (.int .i64 (M.jappend j zs).1) ∧ Live A w' j.p (M.jappend j zs).2 ∧ JAt w' j ∧ Off (fun b => ¬ A b) w0 w' := by
  have hb1 : Below w0.heap.size w0 (w0.alloc (.cells #[.slice a zs.length cap] 34)) := (Below.refl _ _).alloc (Nat.le_refl _) _
  have hR1 : RowOf Rc.cells (w0.alloc (.cells #[.slice a zs.length cap] 34)) (some ⟨w0.heap.size, 0, none⟩) [⟨a, cap, zs⟩] := .inr ⟨w0.heap.size, 0, rfl, by simp, range_new w0 #[.slice a zs.length cap] 34⟩
  have cT := jtakes_any j M A (some ⟨w0.heap.size, 0, none⟩) 1 [⟨a, cap, zs⟩] _ (h.below hb1) (hT.below hb1) hR1 (by unfold maxLen; simp)
  have hq := h.lt
  have hzl := hz.1
  unfold maxLen at hzl
  unfold Mt.jappend
  unfold jptr at *
  have stay : ∀ w', Below w0.heap.size w0 w' → Live A w' j.p M ∧ JAt w' j ∧ Off (fun b => ¬ A b) w0 w' := fun w' hb => ⟨hT.below hb, h.below hb, Off.of_below hb⟩
  cases hon : M.jon j.fs
  · rw [hon, show takesE false [⟨a, cap, zs⟩] = 150 from rfl] at cT
    rw [if_neg (by simp)]
    clear hon
    go_enter Try.func12, Try.ntmps12
    go_wp2_with fail
    refine cT.mono ?_
    rintro e w1 ⟨rfl, hB1⟩
    have HF := hide (stay w1 (hb1.trans (hB1.mono hb1.size)))
    clear cT h hT stay
    go_wp2_with fail
    go_ret
    exact ⟨rfl, HF.out⟩
  · rw [if_pos rfl]
    by_cases hlong : zs.length ≤ 4194304
    rotate_left
    · rw [hon, show takesE true [⟨a, cap, zs⟩] = 3 by unfold takesE; simp [hlong]] at cT
      rw [if_neg hlong]
      clear hon
      go_enter Try.func12, Try.ntmps12
      go_wp2_with fail
      refine cT.mono ?_
      rintro e w1 ⟨rfl, hB1⟩
      have HF := hide (stay w1 (hb1.trans (hB1.mono hb1.size)))
      clear cT h hT stay
      go_wp2_with fail
      go_ret
      exact ⟨rfl, HF.out⟩
    · rw [hon, show takesE true [⟨a, cap, zs⟩] = 0 by unfold takesE; simp [hlong]] at cT
      rw [if_pos hlong]
      clear hon stay
      have hfl : (Ty.frameL 68 (strOf zs)).length ≤ 100000000 := by
        have := Ty.Tal.putL_length (((strOf zs).size : Nat) : Int) (by rw [Ty.strOf_size]; omega)
        simp only [Ty.frameL, Ty.sumL, Ty.kindL, Ty.textL, List.length_append, List.length_cons, List.length_nil, Ty.strL_length, Ty.strOf_size] at *
        omega
      have hfresh : ∀ {w8 wB : World} {fa : Option Addr} {fc : Nat}, Ty.Mine wB w8.heap.size (.slice fa (Ty.frameL 68 (strOf zs)).length fc) (Ty.frameL 68 (strOf zs)) → Ty.frameL 68 (strOf zs) = [] ∨ ∀ x, fa = some x → More A w8 wB x.block := fun {w8 wB fa fc} hm => by
        rcases own_range hm.1 with ⟨e1, e2, _⟩ | ⟨g, c, e1, e2, e3, _⟩
        · left; exact List.eq_nil_of_length_eq_zero e2
        · right
          intro x hx
          simp only [Value.slice.injEq] at e1
          rw [hx] at e1
          have := e1.1
          simp only [Option.some.injEq] at this
          subst this
          exact .inr ⟨e2, e3⟩
      obtain ⟨se, hse⟩ : ∃ se, Hid (M.append j.ar (Ty.frameL 68 (strOf zs)) = se) := ⟨_, hide rfl⟩
      rw [hse.out]
      go_enter Try.func12, Try.ntmps12
      go_wp2_with fail
      refine cT.mono ?_
      rintro e w ⟨rfl, hB1'⟩
      clear cT
      have hB1 := hb1.trans (hB1'.mono hb1.size)
      have hJ1 := h.below hB1
      go_wp2_with fail
      obtain ⟨w8, hw8⟩ : ∃ w8, w.drew = w8 := ⟨_, rfl⟩
      have B18 : Below w.heap.size w w8 := by rw [← hw8]; exact (Below.refl _ _).drew
      have B8 : Below w0.heap.size w0 w8 := hB1.trans (B18.mono hB1.size)
      have hA8 : ∀ b, A b → b < w8.heap.size := fun b hb => Nat.lt_of_lt_of_le (hA b hb) B8.size
      have hq8 : j.q < w8.heap.size := Nat.lt_of_lt_of_le hq B8.size
      have x0 : ∀ w' : World, w'.heap[j.q]? = w.heap[j.q]? → w'.cell? ⟨j.q, 0, none⟩ = some (.pointer (some ⟨j.p, 0, none⟩)) := fun w' q => (hJ1.at q).cell 0 rfl
      have x1 : ∀ w' : World, w'.heap[j.q]? = w.heap[j.q]? → w'.cell? ⟨j.q, 1, none⟩ = some (.int .i64 j.ar) := fun w' q => (hJ1.at q).cell 1 rfl
      refine hs_begin (S := (fun w' : World => w'.heap[j.q]? = w.heap[j.q]?)) 12 rfl (by kernel_rfl) ?_
      rw [hw8]
      clear hw8
      have hS : (fun w' : World => w'.heap[j.q]? = w.heap[j.q]?) w8 := B18.block _ hJ1.lt
      refine hs_take (i := 0) (d := some 13) (v := ?_) rfl (by kernel_rfl) (by kernel_rfl) (by kernel_rfl) (by rfl) ?_ hS rfl ?_
      rotate_left
      · intro w' hw
        go_simp
        try with_reducible rfl
      simp only [Act.put, List.setIfInBounds_toArray, List.set_cons_zero, List.set_cons_succ]
      refine hs_take (i := 1) (d := some 14) (v := ?_) rfl (by kernel_rfl) (by kernel_rfl) (by kernel_rfl) (by rfl) ?_ hS rfl ?_
      rotate_left
      · intro w' hw
        go_simp
        try with_reducible rfl
      simp only [Act.put, List.setIfInBounds_toArray, List.set_cons_zero, List.set_cons_succ]
      refine hs_take (i := 2) (d := some 15) (v := ?_) rfl (by kernel_rfl) (by kernel_rfl) (by kernel_rfl) (by rfl) ?_ hS rfl ?_
      rotate_left
      · intro w' hw
        go_simp
        try with_reducible rfl
      simp only [Act.put, List.setIfInBounds_toArray, List.set_cons_zero, List.set_cons_succ]
      refine hs_take (i := 3) (d := some 16) (v := ?_) rfl (by kernel_rfl) (by kernel_rfl) (by kernel_rfl) (by rfl) ?_ hS rfl ?_
      rotate_left
      · intro w' hw
        have hc := x0 w' hw
        go_simp
        try with_reducible rfl
      simp only [Act.put, List.setIfInBounds_toArray, List.set_cons_zero, List.set_cons_succ]
      refine hs_take (i := 4) (d := some 17) (v := ?_) rfl (by kernel_rfl) (by kernel_rfl) (by kernel_rfl) (by rfl) ?_ hS rfl ?_
      rotate_left
      · intro w' hw
        go_simp
        try with_reducible rfl
      simp only [Act.put, List.setIfInBounds_toArray, List.set_cons_zero, List.set_cons_succ]
      refine hs_take (i := 5) (d := some 18) (v := ?_) rfl (by kernel_rfl) (by kernel_rfl) (by kernel_rfl) (by rfl) ?_ hS rfl ?_
      rotate_left
      · intro w' hw
        go_simp
        try with_reducible rfl
      simp only [Act.put, List.setIfInBounds_toArray, List.set_cons_zero, List.set_cons_succ]
      refine hs_take (i := 6) (d := some 19) (v := ?_) rfl (by kernel_rfl) (by kernel_rfl) (by kernel_rfl) (by rfl) ?_ hS rfl ?_
      rotate_left
      · intro w' hw
        go_simp
        try with_reducible rfl
      simp only [Act.put, List.setIfInBounds_toArray, List.set_cons_zero, List.set_cons_succ]
      refine hs_take (i := 7) (d := some 20) (v := ?_) rfl (by kernel_rfl) (by kernel_rfl) (by kernel_rfl) (by rfl) ?_ hS rfl ?_
      rotate_left
      · intro w' hw
        have hc := x1 w' hw
        go_simp
        try with_reducible rfl
      simp only [Act.put, List.setIfInBounds_toArray, List.set_cons_zero, List.set_cons_succ]
      refine hs_take (i := 8) (d := some 21) (v := ?_) rfl (by kernel_rfl) (by kernel_rfl) (by kernel_rfl) (by rfl) ?_ hS rfl ?_
      rotate_left
      · intro w' hw
        go_simp
        try with_reducible rfl
      simp only [Act.put, List.setIfInBounds_toArray, List.set_cons_zero, List.set_cons_succ]
      refine hs_call (i := 9) (d := some 22) rfl (by kernel_rfl) (by rfl) (by go_simp; first | done | exact ⟨rfl, rfl⟩ | with_reducible rfl) rfl ?_
      refine (Ty.frame_any 68 a cap zs w8 (hz.below B8) (by omega) (by omega)).mono ?_
      rintro e' wB ⟨vF, rfl, hMF, hBF⟩
      obtain ⟨fa, fc, rfl, -, -, hRF⟩ := hMF.row (by omega)
      have hS : (fun w' : World => w'.heap[j.q]? = w.heap[j.q]?) wB := (hBF.block _ hq8).trans hS
      refine ⟨_, rfl, hS, ?_⟩
      simp only [Act.put, List.setIfInBounds_toArray, List.set_cons_zero, List.set_cons_succ]
      refine hs_call (i := 10) (d := some 23) rfl (by kernel_rfl) (by rfl) (by go_simp; first | done | exact ⟨rfl, rfl⟩ | with_reducible rfl) rfl ?_
      refine (live_append ((hT.below B8).widen hBF) (More.lt hA8 hBF.size) j.ar fa fc (Ty.frameL 68 (strOf zs)) hRF (hfresh hMF)).mono ?_
      rintro e' wC ⟨rfl, hTC, hOC⟩
      have hS : (fun w' : World => w'.heap[j.q]? = w.heap[j.q]?) wC := (hOC.2 _ (Nat.lt_of_lt_of_le hq8 hBF.size) (fun q => q (.inl hAq))).trans hS
      refine ⟨_, rfl, hS, ?_⟩
      simp only [Act.put, List.setIfInBounds_toArray, List.set_cons_zero, List.set_cons_succ]
      refine hs_take (i := 11) (d := some 4) (v := ?_) rfl (by kernel_rfl) (by kernel_rfl) (by kernel_rfl) (by rfl) ?_ hS rfl ?_
      rotate_left
      · intro w' hw
        go_simp
        try with_reducible rfl
      simp only [Act.put, List.setIfInBounds_toArray, List.set_cons_zero, List.set_cons_succ]
      refine hs_done (by kernel_rfl) ?_
      rw [hse.out] at hTC
      have HF := hide (And.intro (hTC.narrow (A' := A) (fun b hb => .inl hb)) (And.intro (hJ1.at hS) (((Off.of_below (F := fun b => ¬ A b) B8).trans (Off.of_below (F := fun b => ¬ A b) hBF) (fun _ _ q => q)).trans (hOC.mono (fun b _ q q1 => q (.inl q1))) (fun _ _ q => q))))
      rw [hse.out]
      clear hTC hS hOC x0 x1 hMF hRF hfresh
      go_wp2_with fail
      go_ret
      exact ⟨rfl, HF.out⟩
end Go.Proofs.Ytfkchnjbbbhmjab
namespace Go.Proofs.Ytfkchnjbbbhmjab
open Go.RowKit
theorem frame_len (k : Int) (zs : List Int) (h : zs.length ≤ 100000000) : (Ty.frameL k (strOf zs)).length ≤ 100000020 := by
  have := Ty.Tal.putL_length (((strOf zs).size : Nat) : Int) (by rw [Ty.strOf_size]; omega)
  simp only [Ty.frameL, Ty.sumL, Ty.kindL, Ty.textL, List.length_append, List.length_cons, List.length_nil, Ty.strL_length, Ty.strOf_size] at *
  omega
theorem mine_fresh {A : Nat → Prop} {w8 wB : World} {fa : Option Addr} {n fc : Nat} {L : List Int} (hm : Ty.Mine wB w8.heap.size (.slice fa n fc) L) : L = [] ∨ ∀ x, fa = some x → More A w8 wB x.block := by
  rcases own_range hm.1 with ⟨e1, e2, _⟩ | ⟨g, c, e1, e2, e3, _⟩
  · left; exact List.eq_nil_of_length_eq_zero e2
  · right
    intro x hx
    simp only [Value.slice.injEq] at e1
    rw [hx] at e1
    have := e1.1
    simp only [Option.some.injEq] at this
    subst this
    exact .inr ⟨e2, e3⟩
theorem nilRow {w : World} : RowAt w none [] := ⟨by unfold maxLen; simp, by simp, .inl rfl⟩
/-- records, one behind the other -/
def layRecs (area : Int) : List (List Int) → Mt → Int × Mt
  | [], M => (0, M)
  | z :: zs, M => if (M.append area (Ty.frameL 68 (strOf z))).1 = 0 then layRecs area zs (M.append area (Ty.frameL 68 (strOf z))).2 else M.append area (Ty.frameL 68 (strOf z))
/-- only if there was no error ahead -/
def onward (r : Int × Mt) (f : Mt → Int × Mt) : Int × Mt := if r.1 = 0 then f r.2 else r
def writeM (M : Mt) (area tu : Int) (zss : List (List Int)) : Int × Mt :=
  onward (M.empty area) fun M1 => onward (layRecs area zss M1) fun M2 => onward (M2.append area (Ty.frameL 71 (strOf (Ty.Tal.putL tu)))) fun M3 => M3.sync area
set_option maxRecDepth 100000 in
set_option maxHeartbeats 4000000 in
theorem jwrite_any (j : Jv) (M : Mt) (A : Nat → Prop) (ar tu : Int) (ra : Option Addr) (rc : Nat) (rs : List Rc) (w0 : World) (h : JAt w0 j) (hT : Live A w0 j.p M) (hA : ∀ b, A b → b < w0.heap.size) (hAq : A j.q) (htu : tu ≤ 9223372036854775807)
    (hr : RowOf Rc.cells w0 ra rs) (hl : rs.length ≤ maxLen) (hrA : rs = [] ∨ ∀ x, ra = some x → A x.block) (hrs : ∀ r ∈ rs, RowAt w0 r.a r.zs ∧ r.zs.length ≤ 4194304 ∧ (r.zs = [] ∨ ∀ x, r.a = some x → A x.block)) :
    Calls Try.prog 31 #[jptr j, .int .i64 ar, .int .i64 tu, .slice ra rs.length rc] w0 fun e w' => e = .returned (.int .i64 (writeM M ar tu (rs.map Rc.zs)).1) ∧ Live A w' j.p (writeM M ar tu (rs.map Rc.zs)).2 ∧ JAt w' j ∧ Off (fun b => ¬ A b) w0 w' := by
  have hx0 := h.cell 0 rfl
  have cC := live_clear hT hA ar
  have hpt := Ty.Tal.putL_length tu (by omega)
  unfold maxLen at hl
  obtain ⟨we, hwe⟩ : ∃ we, writeM M ar tu (rs.map Rc.zs) = we := ⟨_, rfl⟩
  rw [hwe]
  have HW := hide hwe
  clear hwe
  obtain ⟨ce, hce⟩ : ∃ ce, M.empty ar = ce := ⟨_, rfl⟩
  obtain ⟨cE, M1⟩ := ce
  have HC := hide hce
  rw [hce] at cC
  clear hce
  unfold jptr at *
  go_enter Try.func31, Try.ntmps31
  go_wp2_with fail
  refine cC.mono ?_
  rintro e w1 ⟨rfl, hT1, hO1⟩
  clear cC hx0
  have hJ1 : JAt w1 j := h.at (hO1.2 _ h.lt (fun q => q hAq))
  by_cases hcE : cE = 0
  rotate_left
  · have hz0 : (cE == 0) = false := by simpa using hcE
    have HF : Hid (we = (cE, M1)) := hide (by rw [← HW.out]; unfold writeM onward; rw [HC.out, if_neg hcE])
    clear hcE
    have HG := hide (And.intro hT1 (And.intro hJ1 hO1))
    clear hT1 hO1
    go_wp2_with fail
    go_ret
    exact ⟨by rw [HF.out]; rfl, by rw [HF.out]; exact HG.out⟩
  · subst hcE
    have HW1 : Hid (onward (layRecs ar (rs.map Rc.zs) M1) (fun M2 => onward (M2.append ar (Ty.frameL 71 (strOf (Ty.Tal.putL tu)))) fun M3 => M3.sync ar) = we) := hide (by
      have := HW.out
      unfold writeM at this
      rw [HC.out] at this
      exact this)
    clear HW HC hT
    go_wp2_with fail
    go_loopw [25] (fun iv wr => ∃ (k : Nat) (Mk : Mt), k ≤ rs.length ∧ iv = .int .i64 (k : Int) ∧ Live A wr j.p Mk ∧ JAt wr j ∧ Off (fun b => ¬ A b) w0 wr ∧ Hid (layRecs ar (rs.map Rc.zs) M1 = layRecs ar ((rs.drop k).map Rc.zs) Mk)) (fun iv _ => rs.length - (intOf iv).toNat)
    case atStart => exact ⟨0, M1, by omega, rfl, hT1, hJ1, hO1, hide rfl⟩
    case round =>
      clear hT1 hJ1 hO1
      obtain ⟨k, Mk, hk, rfl, hTw, hJw, hOw, HL⟩ := hrel
      obtain ⟨w, rfl⟩ : ∃ w, w = wr := ⟨_, rfl⟩
      have hAw : ∀ b, A b → b < w.heap.size := fun b hb => Nat.lt_of_lt_of_le (hA b hb) hOw.size
      by_cases hlt : k < rs.length
      · have hltI : (k : Int) < (rs.length : Int) := by omega
        obtain ⟨rb, off, rfl, hrb, hre0⟩ := hr.elem (k := 1) (fun _ _ => rfl) k hlt
        have hAr : A rb := by
          rcases hrA with q | q
          · rw [q] at hlt; simp at hlt
          · exact q _ rfl
        have c0 : w.cell? ⟨rb, off + k, none⟩ = some (.slice rs[k].a rs[k].zs.length rs[k].cap) := by
          have := (range_at hre0 (hOw.2 rb hrb (fun q => q hAr))) 0 _ rfl
          simpa using this
        have hys := hrs _ (List.getElem_mem hlt)
        have HD := hide (List.drop_eq_getElem_cons hlt)
        obtain ⟨y, hy⟩ : ∃ y, Hid (rs[k] = y) := ⟨_, hide rfl⟩
        rw [hy.out] at c0 hys HD
        clear hre0 hy
        obtain ⟨hyr0, hyl, hyA⟩ := hys
        have hyr := hyr0.off hOw (by
          rcases hyA with q | q
          · exact .inl q
          · exact .inr (fun x hx q1 => q1 (q x hx)))
        obtain ⟨ae, hae⟩ : ∃ ae, Hid (Mk.append ar (Ty.frameL 68 (strOf y.zs)) = ae) := ⟨_, hide rfl⟩
        obtain ⟨aE, Ma⟩ := ae
        have HS : Hid (layRecs ar ((rs.drop k).map Rc.zs) Mk = if aE = 0 then layRecs ar ((rs.drop (k + 1)).map Rc.zs) Ma else (aE, Ma)) := hide (by
          rw [HD.out, List.map_cons]
          show (if (Mk.append ar (Ty.frameL 68 (strOf y.zs))).1 = 0 then _ else _) = _
          rw [hae.out])
        go_wp2_with fail
        obtain ⟨w8, hw8⟩ : ∃ w8, w.drew = w8 := ⟨_, rfl⟩
        have B8 : Below w.heap.size w w8 := by rw [← hw8]; exact (Below.refl _ _).drew
        have hA8 : ∀ b, A b → b < w8.heap.size := fun b hb => Nat.lt_of_lt_of_le (hAw b hb) B8.size
        have hq8 : j.q < w8.heap.size := Nat.lt_of_lt_of_le hJw.lt B8.size
        have x0 : ∀ w' : World, w'.heap[j.q]? = w.heap[j.q]? → w'.cell? ⟨j.q, 0, none⟩ = some (.pointer (some ⟨j.p, 0, none⟩)) := fun w' q => (hJw.at q).cell 0 rfl
        refine hs_begin (S := (fun w' : World => w'.heap[j.q]? = w.heap[j.q]?)) 9 rfl (by kernel_rfl) ?_
        rw [hw8]
        clear hw8
        have hS : (fun w' : World => w'.heap[j.q]? = w.heap[j.q]?) w8 := B8.block _ hJw.lt
        refine hs_take (i := 0) (d := some 29) (v := ?_) rfl (by kernel_rfl) (by kernel_rfl) (by kernel_rfl) (by rfl) ?_ hS rfl ?_
        rotate_left
        · intro w' hw
          go_simp
          try with_reducible rfl
        simp only [Act.put, List.setIfInBounds_toArray, List.set_cons_zero, List.set_cons_succ]
        refine hs_take (i := 1) (d := some 30) (v := ?_) rfl (by kernel_rfl) (by kernel_rfl) (by kernel_rfl) (by rfl) ?_ hS rfl ?_
        rotate_left
        · intro w' hw
          go_simp
          try with_reducible rfl
        simp only [Act.put, List.setIfInBounds_toArray, List.set_cons_zero, List.set_cons_succ]
        refine hs_take (i := 2) (d := some 31) (v := ?_) rfl (by kernel_rfl) (by kernel_rfl) (by kernel_rfl) (by rfl) ?_ hS rfl ?_
        rotate_left
        · intro w' hw
          go_simp
          try with_reducible rfl
        simp only [Act.put, List.setIfInBounds_toArray, List.set_cons_zero, List.set_cons_succ]
        refine hs_take (i := 3) (d := some 32) (v := ?_) rfl (by kernel_rfl) (by kernel_rfl) (by kernel_rfl) (by rfl) ?_ hS rfl ?_
        rotate_left
        · intro w' hw
          have hc := x0 w' hw
          go_simp
          try with_reducible rfl
        simp only [Act.put, List.setIfInBounds_toArray, List.set_cons_zero, List.set_cons_succ]
        refine hs_take (i := 4) (d := some 33) (v := ?_) rfl (by kernel_rfl) (by kernel_rfl) (by kernel_rfl) (by rfl) ?_ hS rfl ?_
        rotate_left
        · intro w' hw
          go_simp
          try with_reducible rfl
        simp only [Act.put, List.setIfInBounds_toArray, List.set_cons_zero, List.set_cons_succ]
        refine hs_take (i := 5) (d := some 34) (v := ?_) rfl (by kernel_rfl) (by kernel_rfl) (by kernel_rfl) (by rfl) ?_ hS rfl ?_
        rotate_left
        · intro w' hw
          go_simp
          try with_reducible rfl
        simp only [Act.put, List.setIfInBounds_toArray, List.set_cons_zero, List.set_cons_succ]
        refine hs_call (i := 6) (d := some 35) rfl (by kernel_rfl) (by rfl) (by go_simp; first | done | exact ⟨rfl, rfl⟩ | with_reducible rfl) rfl ?_
        refine (Ty.frame_any 68 y.a y.cap y.zs w8 (hyr.below B8) (by omega) (by omega)).mono ?_
        rintro e' wB ⟨vF, rfl, hMF, hBF⟩
        obtain ⟨fa, fc, rfl, -, -, hRF⟩ := hMF.row (by have := frame_len 68 y.zs (by omega); omega)
        have hS : (fun w' : World => w'.heap[j.q]? = w.heap[j.q]?) wB := (hBF.block _ hq8).trans hS
        refine ⟨_, rfl, hS, ?_⟩
        simp only [Act.put, List.setIfInBounds_toArray, List.set_cons_zero, List.set_cons_succ]
        refine hs_call (i := 7) (d := some 36) rfl (by kernel_rfl) (by rfl) (by go_simp; first | done | exact ⟨rfl, rfl⟩ | with_reducible rfl) rfl ?_
        refine (live_append ((hTw.below B8).widen hBF) (More.lt hA8 hBF.size) ar fa fc (Ty.frameL 68 (strOf y.zs)) hRF (mine_fresh hMF)).mono ?_
        rintro e' wC ⟨rfl, hTC, hOC⟩
        have hS : (fun w' : World => w'.heap[j.q]? = w.heap[j.q]?) wC := (hOC.2 _ (Nat.lt_of_lt_of_le hq8 hBF.size) (fun q => q (.inl hAq))).trans hS
        refine ⟨_, rfl, hS, ?_⟩
        simp only [Act.put, List.setIfInBounds_toArray, List.set_cons_zero, List.set_cons_succ]
        refine hs_take (i := 8) (d := some 12) (v := ?_) rfl (by kernel_rfl) (by kernel_rfl) (by kernel_rfl) (by rfl) ?_ hS rfl ?_
        rotate_left
        · intro w' hw
          go_simp
          try with_reducible rfl
        simp only [Act.put, List.setIfInBounds_toArray, List.set_cons_zero, List.set_cons_succ]
        refine hs_done (by kernel_rfl) ?_
        rw [hae.out] at hTC ⊢
        have hTn := hTC.narrow (A' := A) (fun b hb => .inl hb)
        have hJn := hJw.at hS
        have hOn : Off (fun b => ¬ A b) w0 wC := ((hOw.trans (Off.of_below (F := fun b => ¬ A b) B8) (fun _ _ q => q)).trans (Off.of_below (F := fun b => ¬ A b) hBF) (fun _ _ q => q)).trans (hOC.mono (fun b _ q q1 => q (.inl q1))) (fun _ _ q => q)
        clear hTC hOC hMF hRF x0 hS hTw hOw
        by_cases haE : aE = 0
        · subst haE
          have HN : Hid (layRecs ar (rs.map Rc.zs) M1 = layRecs ar ((rs.drop (k + 1)).map Rc.zs) Ma) := hide (by rw [HL.out, HS.out, if_pos rfl])
          clear HL HS hae HD
          go_wp2_with fail
          go_roundw
          case rel => exact ⟨k + 1, Ma, by omega, by go_num, hTn, hJn, hOn, HN⟩
          case measure => simp [intOf]; omega
        · have hz0 : (aE == 0) = false := by simpa using haE
          have HF : Hid (we = (aE, Ma)) := hide (by
            rw [← HW1.out, HL.out, HS.out, if_neg haE]
            unfold onward
            rw [if_neg haE])
          have HG := hide (And.intro hTn (And.intro hJn hOn))
          clear haE hTn hJn hOn HL HS hae HD
          go_wp2_with fail
          go_ret
          exact ⟨by rw [HF.out]; rfl, by rw [HF.out]; exact HG.out⟩
      · have k1 : ¬ (k : Int) < (rs.length : Int) := by omega
        have HLn : Hid (layRecs ar (rs.map Rc.zs) M1 = (0, Mk)) := hide (by
          rw [HL.out, List.drop_eq_nil_of_le (by omega)]
          rfl)
        obtain ⟨ae, hae⟩ : ∃ ae, Hid (Mk.append ar (Ty.frameL 71 (strOf (Ty.Tal.putL tu))) = ae) := ⟨_, hide rfl⟩
        obtain ⟨aE, Ma⟩ := ae
        have HS : Hid (we = if aE = 0 then Ma.sync ar else (aE, Ma)) := hide (by
          rw [← HW1.out, HLn.out]
          show (if (Mk.append ar (Ty.frameL 71 (strOf (Ty.Tal.putL tu)))).1 = 0 then _ else _) = _
          rw [hae.out])
        clear HL HLn
        go_wp2_with fail
        obtain ⟨w8, hw8⟩ : ∃ w8, w.drew = w8 := ⟨_, rfl⟩
        have B8 : Below w.heap.size w w8 := by rw [← hw8]; exact (Below.refl _ _).drew
        have hA8 : ∀ b, A b → b < w8.heap.size := fun b hb => Nat.lt_of_lt_of_le (hAw b hb) B8.size
        have hq8 : j.q < w8.heap.size := Nat.lt_of_lt_of_le hJw.lt B8.size
        have x0 : ∀ w' : World, w'.heap[j.q]? = w.heap[j.q]? → w'.cell? ⟨j.q, 0, none⟩ = some (.pointer (some ⟨j.p, 0, none⟩)) := fun w' q => (hJw.at q).cell 0 rfl
        refine hs_begin (S := (fun w' : World => w'.heap[j.q]? = w.heap[j.q]?)) 10 rfl (by kernel_rfl) ?_
        rw [hw8]
        clear hw8
        have hS : (fun w' : World => w'.heap[j.q]? = w.heap[j.q]?) w8 := B8.block _ hJw.lt
        refine hs_take (i := 0) (d := some 41) (v := ?_) rfl (by kernel_rfl) (by kernel_rfl) (by kernel_rfl) (by rfl) ?_ hS rfl ?_
        rotate_left
        · intro w' hw
          go_simp
          try with_reducible rfl
        simp only [Act.put, List.setIfInBounds_toArray, List.set_cons_zero, List.set_cons_succ]
        refine hs_take (i := 1) (d := some 42) (v := ?_) rfl (by kernel_rfl) (by kernel_rfl) (by kernel_rfl) (by rfl) ?_ hS rfl ?_
        rotate_left
        · intro w' hw
          go_simp
          try with_reducible rfl
        simp only [Act.put, List.setIfInBounds_toArray, List.set_cons_zero, List.set_cons_succ]
        refine hs_take (i := 2) (d := some 43) (v := ?_) rfl (by kernel_rfl) (by kernel_rfl) (by kernel_rfl) (by rfl) ?_ hS rfl ?_
        rotate_left
        · intro w' hw
          go_simp
          try with_reducible rfl
        simp only [Act.put, List.setIfInBounds_toArray, List.set_cons_zero, List.set_cons_succ]
        refine hs_take (i := 3) (d := some 44) (v := ?_) rfl (by kernel_rfl) (by kernel_rfl) (by kernel_rfl) (by rfl) ?_ hS rfl ?_
        rotate_left
        · intro w' hw
          have hc := x0 w' hw
          go_simp
          try with_reducible rfl
        simp only [Act.put, List.setIfInBounds_toArray, List.set_cons_zero, List.set_cons_succ]
        refine hs_take (i := 4) (d := some 45) (v := ?_) rfl (by kernel_rfl) (by kernel_rfl) (by kernel_rfl) (by rfl) ?_ hS rfl ?_
        rotate_left
        · intro w' hw
          go_simp
          try with_reducible rfl
        simp only [Act.put, List.setIfInBounds_toArray, List.set_cons_zero, List.set_cons_succ]
        refine hs_take (i := 5) (d := some 46) (v := ?_) rfl (by kernel_rfl) (by kernel_rfl) (by kernel_rfl) (by rfl) ?_ hS rfl ?_
        rotate_left
        · intro w' hw
          go_simp
          try with_reducible rfl
        simp only [Act.put, List.setIfInBounds_toArray, List.set_cons_zero, List.set_cons_succ]
        refine hs_call (i := 6) (d := some 47) rfl (by kernel_rfl) (by rfl) (by go_simp; first | done | exact ⟨rfl, rfl⟩ | with_reducible rfl) rfl ?_
        refine (Ty.put_any none 0 [] tu w8 nilRow (by simp) (by omega)).mono ?_
        rintro e' wA ⟨vP, rfl, hMP, hBP⟩
        rw [List.nil_append] at hMP
        obtain ⟨pa, pc, rfl, -, -, hRP⟩ := hMP.row (by omega)
        have hS : (fun w' : World => w'.heap[j.q]? = w.heap[j.q]?) wA := (hBP.block _ hq8).trans hS
        refine ⟨_, rfl, hS, ?_⟩
        simp only [Act.put, List.setIfInBounds_toArray, List.set_cons_zero, List.set_cons_succ]
        refine hs_call (i := 7) (d := some 48) rfl (by kernel_rfl) (by rfl) (by go_simp; first | done | exact ⟨rfl, rfl⟩ | with_reducible rfl) rfl ?_
        refine (Ty.frame_any 71 pa pc (Ty.Tal.putL tu) wA hRP (by omega) (by omega)).mono ?_
        rintro e' wB ⟨vF, rfl, hMF, hBF⟩
        obtain ⟨fa, fc, rfl, -, -, hRF⟩ := hMF.row (by have := frame_len 71 (Ty.Tal.putL tu) (by omega); omega)
        have hS : (fun w' : World => w'.heap[j.q]? = w.heap[j.q]?) wB := (hBF.block _ (Nat.lt_of_lt_of_le hq8 hBP.size)).trans hS
        refine ⟨_, rfl, hS, ?_⟩
        simp only [Act.put, List.setIfInBounds_toArray, List.set_cons_zero, List.set_cons_succ]
        refine hs_call (i := 8) (d := some 49) rfl (by kernel_rfl) (by rfl) (by go_simp; first | done | exact ⟨rfl, rfl⟩ | with_reducible rfl) rfl ?_
        refine (live_append ((hTw.below (B8.trans (hBP.mono B8.size))).widen hBF) (More.lt (fun b hb => Nat.lt_of_lt_of_le (hA8 b hb) hBP.size) hBF.size) ar fa fc (Ty.frameL 71 (strOf (Ty.Tal.putL tu))) hRF (mine_fresh hMF)).mono ?_
        rintro e' wC ⟨rfl, hTC, hOC⟩
        have hS : (fun w' : World => w'.heap[j.q]? = w.heap[j.q]?) wC := (hOC.2 _ (Nat.lt_of_lt_of_le (Nat.lt_of_lt_of_le hq8 hBP.size) hBF.size) (fun q => q (.inl hAq))).trans hS
        refine ⟨_, rfl, hS, ?_⟩
        simp only [Act.put, List.setIfInBounds_toArray, List.set_cons_zero, List.set_cons_succ]
        refine hs_take (i := 9) (d := some 13) (v := ?_) rfl (by kernel_rfl) (by kernel_rfl) (by kernel_rfl) (by rfl) ?_ hS rfl ?_
        rotate_left
        · intro w' hw
          go_simp
          try with_reducible rfl
        simp only [Act.put, List.setIfInBounds_toArray, List.set_cons_zero, List.set_cons_succ]
        refine hs_done (by kernel_rfl) ?_
        rw [hae.out] at hTC ⊢
        have hTn := hTC.narrow (A' := A) (fun b hb => .inl hb)
        have hJn := hJw.at hS
        have hOn : Off (fun b => ¬ A b) w0 wC := (((hOw.trans (Off.of_below (F := fun b => ¬ A b) B8) (fun _ _ q => q)).trans (Off.of_below (F := fun b => ¬ A b) hBP) (fun _ _ q => q)).trans (Off.of_below (F := fun b => ¬ A b) hBF) (fun _ _ q => q)).trans (hOC.mono (fun b _ q q1 => q (.inl q1))) (fun _ _ q => q)
        have hAn : ∀ b, A b → b < wC.heap.size := fun b hb => Nat.lt_of_lt_of_le (hA b hb) hOn.size
        clear hTC hOC hMF hRF hMP hRP x0 hS hTw hOw
        by_cases haE : aE = 0
        · subst haE
          have cY := live_sync hTn hAn ar
          have xn := hJn.cell 0 rfl
          rw [if_pos rfl] at HS
          rw [← HS.out] at cY
          clear hTn
          go_wp2_with fail
          refine cY.mono ?_
          rintro e w9 ⟨rfl, hT9, hO9⟩
          have HG := hide (And.intro hT9 (And.intro (hJn.at (hO9.2 _ hJn.lt (fun q => q hAq))) (hOn.trans hO9 (fun _ _ q => q))))
          clear cY hT9 hO9
          go_wp2_with fail
          go_ret
          exact ⟨rfl, HG.out⟩
        · have hz0 : (aE == 0) = false := by simpa using haE
          rw [if_neg haE] at HS
          have HG := hide (And.intro hTn (And.intro hJn hOn))
          clear haE hTn hJn hOn
          go_wp2_with fail
          go_ret
          exact ⟨by rw [HS.out]; rfl, by rw [HS.out]; exact HG.out⟩
end Go.Proofs.Ytfkchnjbbbhmjab
