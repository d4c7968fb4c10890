/- the document's Same, with lists; fields of a message that are laid one by one; message.bare at each kind; allMay; Good; batches that are not too much; the reader's tags and digests; The document's reader: Read.; A region that draws its order: what only reads is taken as soon as it may come up, over worlds that have grown since the last call; behind each call the condition turns to the new world. One way through the region.; The document's reader: Raw.; Two readers of the same bytes, side by side.; the reader's signs and envelopes -/
import Derived.Test.YtgjalkbianpibaaGreatJD4
import Derived.Test.YtgjalkbianpibaaGreatJD3
import Derived.Test.YtgjalkbianpibaaGreatJD2
import Derived.Deep.Cut
import Derived.Deep.DeepCutAuto
import Derived.WalkKit
import Derived.Deep.RegionHeld3
namespace Go.Proofs.YtgjalkbianpibaaGreat
open Go.RowKit
open Sha Tal
set_option maxRecDepth 100000 in
set_option maxHeartbeats 8000000 in
theorem xsame_any (a b : Mg) (w : World) (oa : a.ok) (ob : b.ok) (ha : a.At w) (hb : b.At w) : Calls Tryz.prog 12 #[.agg a.ms.cells.toArray, .agg b.ms.cells.toArray] w fun er w' => er = .returned (.bool (Mg.B a b)) ∧ Below w.heap.size w w' := by
  obtain ⟨hA, hA', hB, hs⟩ := two_boxG a.ms.cells b.ms.cells 37 w
  obtain ⟨W, hW⟩ : ∃ W, Hid ((w.alloc (.cells a.ms.cells.toArray 37)).alloc (.cells b.ms.cells.toArray 37) = W) := ⟨_, hide rfl⟩
  rw [hW.out] at hA hA' hB hs
  have M := oa.ms.at hA
  have M' := ob.ms.at hA'
  have ix : (Tryz.prog.info? 28).map (·.size) = some a.vt.cells.length := by rw [oa.vt.len]; exact iszV
  have iy : (Tryz.prog.info? 28).map (·.size) = some b.vt.cells.length := by rw [ob.vt.len]; exact iszV
  have id : (Tryz.prog.info? 26).map (·.size) = some (v8 a.d).length := by rw [v8_length, oa.dl]; exact iszD
  have id' : (Tryz.prog.info? 26).map (·.size) = some (v8 b.d).length := by rw [v8_length, ob.dl]; exact iszD
  have ic : (Tryz.prog.info? 35).map (·.size) = some (certL a.ct a.cs).length := by rw [show (certL a.ct a.cs).length = 37 by simp [certL, oa.ct.len]]; exact iszC
  have ic' : (Tryz.prog.info? 35).map (·.size) = some (certL b.ct b.cs).length := by rw [show (certL b.ct b.cs).length = 37 by simp [certL, ob.ct.len]]; exact iszC
  have hq := eqInV a.vt b.vt oa.vt.dl ob.vt.dl
  have hq2 := eqInD a.d b.d oa.dl ob.dl
  have gB := fun w0 k1 k2 => xbsame_any a.q a.rs b.q b.rs w0 k1 k2
  have gC := fun w0 k1 k2 => xeqHeld_any a.he b.he w0 k1 k2
  have gN := fun w0 k1 k2 => xequalE_anyB a.ne.a a.ne.cap a.ne.xs b.ne.a b.ne.cap b.ne.xs w0 k1 k2
  have gT := fun w0 k1 k2 => xscert_any a.ct b.ct a.cs b.cs w0 oa.ct ob.ct k1 k2
  have gS := fun w0 k1 k2 => xequalS_anyB a.sg.a a.sg.cap a.sg.xs b.sg.a b.sg.cap b.sg.xs w0 k1 k2
  have a1 := ha.below hB
  have b1 := hb.below hB
  have cK : W.cell? ⟨w.heap.size, 0, none⟩ = some (.int .i64 a.k) := M.k
  have cE : W.cell? ⟨w.heap.size, 1, none⟩ = some (.int .i64 a.e) := M.e
  have cL : W.cell? ⟨w.heap.size, 2, none⟩ = some (.int .i64 a.l) := M.l
  have cV : W.cell? ⟨w.heap.size, 3, none⟩ = some (.int .i64 a.v) := M.v
  have cS : W.cell? ⟨w.heap.size, 4, none⟩ = some (.int .i64 a.s) := M.s
  have cQ : W.cell? ⟨w.heap.size, 5, none⟩ = some (.bool a.q) := M.q
  have cR : W.cell? ⟨w.heap.size, 6, none⟩ = some (.slice a.rs.a a.rs.xs.length a.rs.cap) := M.rs
  have c1 : W.cell? ⟨w.heap.size, 43, none⟩ = some (.int .i64 a.ce) := M.ce
  have c2 : W.cell? ⟨w.heap.size, 44, none⟩ = some (.int .i64 a.cl) := M.cl
  have c3 : W.cell? ⟨w.heap.size, 45, none⟩ = some (.int .i64 a.cv) := M.cv
  have cH : W.cell? ⟨w.heap.size, 46, none⟩ = some (.slice a.he.a a.he.xs.length a.he.cap) := M.he
  have cN : W.cell? ⟨w.heap.size, 47, none⟩ = some (.slice a.ne.a a.ne.xs.length a.ne.cap) := M.ne
  have cT : W.cell? ⟨w.heap.size, 117, none⟩ = some (.string a.st) := M.st
  have cG : W.cell? ⟨w.heap.size, 118, none⟩ = some (.slice a.sg.a a.sg.xs.length a.sg.cap) := M.sg
  have rV : W.rangeAt (w.heap.size) 7 a.vt.cells := M.vt
  have rD : W.rangeAt (w.heap.size) 48 (v8 a.d) := M.d
  have rC : W.rangeAt (w.heap.size) 80 (certL a.ct a.cs) := M.ct
  have cK' : W.cell? ⟨w.heap.size + 1, 0, none⟩ = some (.int .i64 b.k) := M'.k
  have cE' : W.cell? ⟨w.heap.size + 1, 1, none⟩ = some (.int .i64 b.e) := M'.e
  have cL' : W.cell? ⟨w.heap.size + 1, 2, none⟩ = some (.int .i64 b.l) := M'.l
  have cV' : W.cell? ⟨w.heap.size + 1, 3, none⟩ = some (.int .i64 b.v) := M'.v
  have cS' : W.cell? ⟨w.heap.size + 1, 4, none⟩ = some (.int .i64 b.s) := M'.s
  have cQ' : W.cell? ⟨w.heap.size + 1, 5, none⟩ = some (.bool b.q) := M'.q
  have cR' : W.cell? ⟨w.heap.size + 1, 6, none⟩ = some (.slice b.rs.a b.rs.xs.length b.rs.cap) := M'.rs
  have c1' : W.cell? ⟨w.heap.size + 1, 43, none⟩ = some (.int .i64 b.ce) := M'.ce
  have c2' : W.cell? ⟨w.heap.size + 1, 44, none⟩ = some (.int .i64 b.cl) := M'.cl
  have c3' : W.cell? ⟨w.heap.size + 1, 45, none⟩ = some (.int .i64 b.cv) := M'.cv
  have cH' : W.cell? ⟨w.heap.size + 1, 46, none⟩ = some (.slice b.he.a b.he.xs.length b.he.cap) := M'.he
  have cN' : W.cell? ⟨w.heap.size + 1, 47, none⟩ = some (.slice b.ne.a b.ne.xs.length b.ne.cap) := M'.ne
  have cT' : W.cell? ⟨w.heap.size + 1, 117, none⟩ = some (.string b.st) := M'.st
  have cG' : W.cell? ⟨w.heap.size + 1, 118, none⟩ = some (.slice b.sg.a b.sg.xs.length b.sg.cap) := M'.sg
  have rV' : W.rangeAt (w.heap.size + 1) 7 b.vt.cells := M'.vt
  have rD' : W.rangeAt (w.heap.size + 1) 48 (v8 b.d) := M'.d
  have rC' : W.rangeAt (w.heap.size + 1) 80 (certL b.ct b.cs) := M'.ct
  simp only [Sl.val] at gB gC
  unfold Mg.B Mg.nB Mg.fB Mg.lB chgB
  have A1 := a1.rs
  have A2 := a1.he
  have A3 : RowsAt EvE W a.ne.a a.ne.xs := a1.ne
  have A4 := a1.cs
  have A5 : RowsAt SgE W a.sg.a a.sg.xs := a1.sg
  have B1 := b1.rs
  have B2 := b1.he
  have B3 : RowsAt EvE W b.ne.a b.ne.xs := b1.ne
  have B4 := b1.cs
  have B5 : RowsAt SgE W b.sg.a b.sg.xs := b1.sg
  clear hA hA' M M' oa ob ha hb a1 b1
  generalize batB a.q a.rs b.q b.rs = b1 at *
  generalize sameL Hd.B a.he.xs b.he.xs = b2 at *
  generalize sameL Ev.B a.ne.xs b.ne.xs = b3 at *
  generalize certB a.ct a.cs b.ct b.cs = b4 at *
  generalize sameL Sg.B a.sg.xs b.sg.xs = b5 at *
  generalize a.ms.cells = q at *
  generalize b.ms.cells = q' at *
  generalize hgu : a.vt.cells = u at *
  generalize hgu' : b.vt.cells = u' at *
  generalize hgd : v8 a.d = ud at *
  generalize hgd' : v8 b.d = ud' at *
  generalize certL a.ct a.cs = uc at *
  generalize certL b.ct b.cs = uc' at *
  generalize vtB a.vt b.vt = vb at *
  generalize (a.d == b.d) = db at *
  clear hgu hgu' hgd hgd'
  obtain ⟨k, e, l, v, s, qq, ⟨ra, rc, rx⟩, vt, ce, cl, cv, ⟨ha, hc, hx⟩, ⟨na, nc, nx⟩, d, ct, cs, st, ⟨ga, gc, gx⟩⟩ := a
  obtain ⟨k', e', l', v', s', qq', ⟨ra', rc', rx'⟩, vt', ce', cl', cv', ⟨ha', hc', hx'⟩, ⟨na', nc', nx'⟩, d', ct', cs', st', ⟨ga', gc', gx'⟩⟩ := b
  simp only at *
  go_enter Tryz.func12, Tryz.ntmps12
  go_upto_region 1 with fail
  go_name_world w1 hw1
  obtain rfl : W = w1 := hW.out.symm.trans hw1
  clear hw1 hW
  try simp only [Act.put]
  refine wp_region_list ?_
  refine wpList_step fun K hK => ?_
  go_simp
  refine hK _ _ ?_
  clear hK K
  refine wpList_step fun K hK => ?_
  go_simp
  refine hK _ _ ?_
  clear hK K
  refine wpList_step fun K hK => ?_
  go_simp
  refine hK _ _ ?_
  clear hK K
  refine wpList_step fun K hK => ?_
  go_simp
  refine hK _ _ ?_
  clear hK K
  by_cases h_k : k = k'
  rotate_left
  · have n_k : (k != k') = true := bne_iff_ne.2 h_k
    have E_k := hide (show (k == k') = false from beq_eq_false_iff_ne.2 h_k)
    clear h_k rV rV' rD rD' cT cT' hq hq2 ix iy id id'
    clear gB gC gN gT gS A1 A2 A3 A4 A5 B1 B2 B3 B4 B5 rC rC' cQ cR cQ' cR' c1 c2 c3 cH c1' c2' c3' cH' cN cN' cG cG' ic ic'
    go_wp2
    go_ret
    exact ⟨by rw [E_k.out]; simp, hB⟩
  · have n_k : (k != k') = false := by rw [h_k]; simp
    have E_k := hide (show (k == k') = true from beq_iff_eq.2 h_k)
    clear h_k
    refine wpList_step fun K hK => ?_
    go_simp
    refine hK _ _ ?_
    clear hK K
    refine wpList_step fun K hK => ?_
    go_simp
    refine hK _ _ ?_
    clear hK K
    refine wpList_step fun K hK => ?_
    go_simp
    refine hK _ _ ?_
    clear hK K
    refine wpList_step fun K hK => ?_
    go_simp
    refine hK _ _ ?_
    clear hK K
    refine wpList_step fun K hK => ?_
    go_simp
    refine hK _ _ ?_
    clear hK K
    refine wpList_step fun K hK => ?_
    go_simp
    refine hK _ _ ?_
    clear hK K
    by_cases h_e : e = e'
    rotate_left
    · have n_e : (e != e') = true := bne_iff_ne.2 h_e
      have E_e := hide (show (e == e') = false from beq_eq_false_iff_ne.2 h_e)
      clear h_e rV rV' rD rD' cT cT' hq hq2 ix iy id id'
      clear gB gC gN gT gS A1 A2 A3 A4 A5 B1 B2 B3 B4 B5 rC rC' cQ cR cQ' cR' c1 c2 c3 cH c1' c2' c3' cH' cN cN' cG cG' ic ic'
      go_wp2
      go_ret
      exact ⟨by rw [E_e.out]; simp, hB⟩
    · have n_e : (e != e') = false := by rw [h_e]; simp
      have E_e := hide (show (e == e') = true from beq_iff_eq.2 h_e)
      clear h_e
      refine wpList_step fun K hK => ?_
      go_simp
      refine hK _ _ ?_
      clear hK K
      refine wpList_step fun K hK => ?_
      go_simp
      refine hK _ _ ?_
      clear hK K
      refine wpList_step fun K hK => ?_
      go_simp
      refine hK _ _ ?_
      clear hK K
      refine wpList_step fun K hK => ?_
      go_simp
      refine hK _ _ ?_
      clear hK K
      refine wpList_step fun K hK => ?_
      go_simp
      refine hK _ _ ?_
      clear hK K
      refine wpList_step fun K hK => ?_
      go_simp
      refine hK _ _ ?_
      clear hK K
      refine wpList_step fun K hK => ?_
      go_simp
      refine hK _ _ ?_
      clear hK K
      by_cases h_l : l = l'
      rotate_left
      · have n_l : (l != l') = true := bne_iff_ne.2 h_l
        have E_l := hide (show (l == l') = false from beq_eq_false_iff_ne.2 h_l)
        clear h_l rV rV' rD rD' cT cT' hq hq2 ix iy id id'
        clear gB gC gN gT gS A1 A2 A3 A4 A5 B1 B2 B3 B4 B5 rC rC' cQ cR cQ' cR' c1 c2 c3 cH c1' c2' c3' cH' cN cN' cG cG' ic ic'
        go_wp2
        go_ret
        exact ⟨by rw [E_l.out]; simp, hB⟩
      · have n_l : (l != l') = false := by rw [h_l]; simp
        have E_l := hide (show (l == l') = true from beq_iff_eq.2 h_l)
        clear h_l
        refine wpList_step fun K hK => ?_
        go_simp
        refine hK _ _ ?_
        clear hK K
        refine wpList_step fun K hK => ?_
        go_simp
        refine hK _ _ ?_
        clear hK K
        refine wpList_step fun K hK => ?_
        go_simp
        refine hK _ _ ?_
        clear hK K
        refine wpList_step fun K hK => ?_
        go_simp
        refine hK _ _ ?_
        clear hK K
        refine wpList_step fun K hK => ?_
        go_simp
        refine hK _ _ ?_
        clear hK K
        refine wpList_step fun K hK => ?_
        go_simp
        refine hK _ _ ?_
        clear hK K
        refine wpList_step fun K hK => ?_
        go_simp
        refine hK _ _ ?_
        clear hK K
        by_cases h_v : v = v'
        rotate_left
        · have n_v : (v != v') = true := bne_iff_ne.2 h_v
          have E_v := hide (show (v == v') = false from beq_eq_false_iff_ne.2 h_v)
          clear h_v rV rV' rD rD' cT cT' hq hq2 ix iy id id'
          clear gB gC gN gT gS A1 A2 A3 A4 A5 B1 B2 B3 B4 B5 rC rC' cQ cR cQ' cR' c1 c2 c3 cH c1' c2' c3' cH' cN cN' cG cG' ic ic'
          go_wp2
          go_ret
          exact ⟨by rw [E_v.out]; simp, hB⟩
        · have n_v : (v != v') = false := by rw [h_v]; simp
          have E_v := hide (show (v == v') = true from beq_iff_eq.2 h_v)
          clear h_v
          refine wpList_step fun K hK => ?_
          go_simp
          refine hK _ _ ?_
          clear hK K
          refine wpList_step fun K hK => ?_
          go_simp
          refine hK _ _ ?_
          clear hK K
          refine wpList_step fun K hK => ?_
          go_simp
          refine hK _ _ ?_
          clear hK K
          refine wpList_step fun K hK => ?_
          go_simp
          refine hK _ _ ?_
          clear hK K
          refine wpList_step fun K hK => ?_
          go_simp
          refine hK _ _ ?_
          clear hK K
          refine wpList_step fun K hK => ?_
          go_simp
          refine hK _ _ ?_
          clear hK K
          refine wpList_step fun K hK => ?_
          go_simp
          refine hK _ _ ?_
          clear hK K
          by_cases h_s : s = s'
          rotate_left
          · have n_s : (s != s') = true := bne_iff_ne.2 h_s
            have E_s := hide (show (s == s') = false from beq_eq_false_iff_ne.2 h_s)
            clear h_s rV rV' rD rD' cT cT' hq hq2 ix iy id id'
            clear gB gC gN gT gS A1 A2 A3 A4 A5 B1 B2 B3 B4 B5 rC rC' cQ cR cQ' cR' c1 c2 c3 cH c1' c2' c3' cH' cN cN' cG cG' ic ic'
            go_wp2
            go_ret
            exact ⟨by rw [E_s.out]; simp, hB⟩
          · have n_s : (s != s') = false := by rw [h_s]; simp
            have E_s := hide (show (s == s') = true from beq_iff_eq.2 h_s)
            clear h_s
            refine wpList_step fun K hK => ?_
            go_simp
            refine hK _ _ ?_
            clear hK K
            refine wpList_step fun K hK => ?_
            go_simp
            refine hK _ _ ?_
            clear hK K
            refine wpList_step fun K hK => ?_
            go_simp
            refine hK _ _ ?_
            clear hK K
            refine wpList_step fun K hK => ?_
            go_simp
            refine hK _ _ ?_
            clear hK K
            refine wpList_load_g (by rfl) 28 _ rfl _ _ rfl u _ rV Tryz.underlying28 rfl ix ?_
            refine wpList_step fun K hK => ?_
            go_simp
            refine hK _ _ ?_
            clear hK K
            refine wpList_load_g (by rfl) 28 _ rfl _ _ rfl u' _ rV' Tryz.underlying28 rfl iy ?_
            cases vb
            · clear rD rD' cT cT' hq2 id id'
              clear gB gC gN gT gS A1 A2 A3 A4 A5 B1 B2 B3 B4 B5 rC rC' cQ cR cQ' cR' c1 c2 c3 cH c1' c2' c3' cH' cN cN' cG cG' ic ic'
              refine wpList_step fun K hK => ?_
              go_simp
              try rw [hq]
              try go_simp
              refine hK _ _ ?_
              clear hK K
              go_wp2
              go_ret
              exact ⟨by simp, hB⟩
            · refine wpList_step fun K hK => ?_
              go_simp
              try rw [hq]
              try go_simp
              refine hK _ _ ?_
              clear hK K
              refine wpList_step fun K hK => ?_
              go_simp
              refine hK _ _ ?_
              clear hK K
              refine wpList_step fun K hK => ?_
              go_simp
              refine hK _ _ ?_
              clear hK K
              refine wpList_step fun K hK => ?_
              go_simp
              refine hK _ _ ?_
              clear hK K
              refine wpList_load_g (by rfl) 26 _ rfl _ _ rfl ud _ rD Tryz.underlying26 rfl id ?_
              refine wpList_step fun K hK => ?_
              go_simp
              refine hK _ _ ?_
              clear hK K
              refine wpList_load_g (by rfl) 26 _ rfl _ _ rfl ud' _ rD' Tryz.underlying26 rfl id' ?_
              cases db
              · clear cT cT'
                clear gB gC gN gT gS A1 A2 A3 A4 A5 B1 B2 B3 B4 B5 rC rC' cQ cR cQ' cR' c1 c2 c3 cH c1' c2' c3' cH' cN cN' cG cG' ic ic'
                refine wpList_step fun K hK => ?_
                go_simp
                try rw [hq2]
                try go_simp
                refine hK _ _ ?_
                clear hK K
                go_wp2
                go_ret
                exact ⟨by simp, hB⟩
              · refine wpList_step fun K hK => ?_
                go_simp
                try rw [hq2]
                try go_simp
                refine hK _ _ ?_
                clear hK K
                refine wpList_step fun K hK => ?_
                go_simp
                refine hK _ _ ?_
                clear hK K
                refine wpList_step fun K hK => ?_
                go_simp
                refine hK _ _ ?_
                clear hK K
                refine wpList_step fun K hK => ?_
                go_simp
                refine hK _ _ ?_
                clear hK K
                refine wpList_step fun K hK => ?_
                go_simp
                refine hK _ _ ?_
                clear hK K
                refine wpList_step fun K hK => ?_
                go_simp
                refine hK _ _ ?_
                clear hK K
                refine wpList_step fun K hK => ?_
                go_simp
                refine hK _ _ ?_
                clear hK K
                by_cases h_st : st.toList = st'.toList
                rotate_left
                · have hst : (st.toList != st'.toList) = true := bne_iff_ne.2 h_st
                  have E_st := hide (show (st.toList == st'.toList) = false from beq_eq_false_iff_ne.2 h_st)
                  clear h_st
                  clear gB gC gN gT gS A1 A2 A3 A4 A5 B1 B2 B3 B4 B5 rC rC' cQ cR cQ' cR' c1 c2 c3 cH c1' c2' c3' cH' cN cN' cG cG' ic ic'
                  refine wpList_neqs (by rfl) _ _ _ _ rfl st st' rfl rfl true hst ?_
                  go_wp2
                  go_ret
                  exact ⟨by rw [E_st.out]; simp, hB⟩
                · have hst : (st.toList != st'.toList) = false := by rw [h_st]; simp
                  have E_st := hide (show (st.toList == st'.toList) = true from beq_iff_eq.2 h_st)
                  clear h_st
                  refine wpList_neqs (by rfl) _ _ _ _ rfl st st' rfl rfl false hst ?_
                  refine wpList_step fun K hK => ?_
                  go_simp
                  refine hK _ _ ?_
                  clear hK K
                  go_upto_region 3 with fail
                  clear cK cE cL cV cS cK' cE' cL' cV' cS' rV rV' rD rD' cT cT' hq hq2 hst ix iy id id'
                  obtain ⟨r2, hb2, hz2, _⟩ := fresh_store W #[.int .i64 0, .int .i64 0, .int .i64 0, .slice none 0 0] 31 [.int .i64 ce, .int .i64 cl, .int .i64 cv, .slice ha hx.length hc] rfl
                  have hT2 := there_new W #[.int .i64 0, .int .i64 0, .int .i64 0, .slice none 0 0] 31
                  go_upto_region 4 with (refine wpList_store_mid rfl 31 _ _ rfl _ _ #[.int .i64 ce, .int .i64 cl, .int .i64 cv, .slice ha hx.length hc] rfl rfl hT2 iszH4 (by simp [Value.oneCell']) ?_)
                  go_name_world w2 hw2
                  rw [show (W.alloc (.cells #[.int .i64 0, .int .i64 0, .int .i64 0, .slice none 0 0] 31)).setCells W.heap.size 0 [.int .i64 ce, .int .i64 cl, .int .i64 cv, .slice ha hx.length hc] = w2 from hw2] at r2 hb2 hz2
                  have hs2 : W.heap.size < w2.heap.size := by omega
                  clear hw2 hz2 hT2
                  have up := fun i v (h : W.cell? ⟨w.heap.size, i, none⟩ = some v) => (hb2.cell (p := ⟨w.heap.size, i, none⟩) (show w.heap.size < W.heap.size by omega)).trans h
                  replace c1 := up _ _ c1
                  replace c2 := up _ _ c2
                  replace c3 := up _ _ c3
                  replace cH := up _ _ cH
                  replace cQ := up _ _ cQ
                  replace cR := up _ _ cR
                  replace cN := up _ _ cN
                  replace cG := up _ _ cG
                  replace rC := range_below rC hb2 (by omega)
                  clear up
                  have up' := fun i v (h : W.cell? ⟨w.heap.size + 1, i, none⟩ = some v) => (hb2.cell (p := ⟨w.heap.size + 1, i, none⟩) (show w.heap.size + 1 < W.heap.size by omega)).trans h
                  replace c1' := up' _ _ c1'
                  replace c2' := up' _ _ c2'
                  replace c3' := up' _ _ c3'
                  replace cH' := up' _ _ cH'
                  replace cQ' := up' _ _ cQ'
                  replace cR' := up' _ _ cR'
                  replace cN' := up' _ _ cN'
                  replace cG' := up' _ _ cG'
                  replace rC' := range_below rC' hb2 (by omega)
                  clear up'
                  have hBa := hB.trans (hb2.mono (by omega))
                  clear hB
                  obtain ⟨r3, hb3, hz3, _⟩ := fresh_store w2 #[.int .i64 0, .int .i64 0, .int .i64 0, .slice none 0 0] 31 [.int .i64 ce', .int .i64 cl', .int .i64 cv', .slice ha' hx'.length hc'] rfl
                  have hT3 := there_new w2 #[.int .i64 0, .int .i64 0, .int .i64 0, .slice none 0 0] 31
                  go_upto_region 5 with (refine wpList_store_mid rfl 31 _ _ rfl _ _ #[.int .i64 ce', .int .i64 cl', .int .i64 cv', .slice ha' hx'.length hc'] rfl rfl hT3 iszH4 (by simp [Value.oneCell']) ?_)
                  go_name_world w3 hw3
                  rw [show (w2.alloc (.cells #[.int .i64 0, .int .i64 0, .int .i64 0, .slice none 0 0] 31)).setCells w2.heap.size 0 [.int .i64 ce', .int .i64 cl', .int .i64 cv', .slice ha' hx'.length hc'] = w3 from hw3] at r3 hb3 hz3
                  have hs3 : w2.heap.size < w3.heap.size := by omega
                  clear hw3 hz3 hT3
                  have up := fun i v (h : w2.cell? ⟨w.heap.size, i, none⟩ = some v) => (hb3.cell (p := ⟨w.heap.size, i, none⟩) (show w.heap.size < w2.heap.size by omega)).trans h
                  replace cQ := up _ _ cQ
                  replace cR := up _ _ cR
                  replace cN := up _ _ cN
                  replace cG := up _ _ cG
                  replace rC := range_below rC hb3 (by omega)
                  clear up
                  have up' := fun i v (h : w2.cell? ⟨w.heap.size + 1, i, none⟩ = some v) => (hb3.cell (p := ⟨w.heap.size + 1, i, none⟩) (show w.heap.size + 1 < w2.heap.size by omega)).trans h
                  replace cQ' := up' _ _ cQ'
                  replace cR' := up' _ _ cR'
                  replace cN' := up' _ _ cN'
                  replace cG' := up' _ _ cG'
                  replace rC' := range_below rC' hb3 (by omega)
                  clear up'
                  have hBb := hBa.trans (hb3.mono (by omega))
                  have d0 := range_below r2 hb3 (by omega) 0 _ rfl
                  have d1 := range_below r2 hb3 (by omega) 1 _ rfl
                  have d2 := range_below r2 hb3 (by omega) 2 _ rfl
                  have d3 := range_below r2 hb3 (by omega) 3 _ rfl
                  have f0 := r3 0 _ rfl
                  have f1 := r3 1 _ rfl
                  have f2 := r3 2 _ rfl
                  have f3 := r3 3 _ rfl
                  simp only [Nat.zero_add, Nat.add_zero] at d0 d1 d2 d3 f0 f1 f2 f3
                  have hs4 : w.heap.size + 2 ≤ w3.heap.size := by omega
                  have hBW : Below W.heap.size W w3 := hb2.trans (hb3.mono (by omega))
                  clear r2 r3 hb2 hb3 hBa c1 c2 c3 cH c1' c2' c3' cH' hs hs2 hs3
                  by_cases h_ce : ce = ce'
                  rotate_left
                  · have n_ce : (ce != ce') = true := bne_iff_ne.2 h_ce
                    have E_ce := hide (show (ce == ce') = false from beq_eq_false_iff_ne.2 h_ce)
                    clear h_ce gB gC gN gT gS A1 A2 A3 A4 A5 B1 B2 B3 B4 B5 rC rC' cQ cR cQ' cR' cN cN' cG cG'
                    go_wp2
                    go_ret
                    exact ⟨by rw [E_ce.out]; simp, hBb⟩
                  · have n_ce : (ce != ce') = false := by rw [h_ce]; simp
                    have E_ce := hide (show (ce == ce') = true from beq_iff_eq.2 h_ce)
                    clear h_ce
                    by_cases h_cl : cl = cl'
                    rotate_left
                    · have n_cl : (cl != cl') = true := bne_iff_ne.2 h_cl
                      have E_cl := hide (show (cl == cl') = false from beq_eq_false_iff_ne.2 h_cl)
                      clear h_cl gB gC gN gT gS A1 A2 A3 A4 A5 B1 B2 B3 B4 B5 rC rC' cQ cR cQ' cR' cN cN' cG cG'
                      go_wp2
                      go_ret
                      exact ⟨by rw [E_cl.out]; simp, hBb⟩
                    · have n_cl : (cl != cl') = false := by rw [h_cl]; simp
                      have E_cl := hide (show (cl == cl') = true from beq_iff_eq.2 h_cl)
                      clear h_cl
                      by_cases h_cv : cv = cv'
                      rotate_left
                      · have n_cv : (cv != cv') = true := bne_iff_ne.2 h_cv
                        have E_cv := hide (show (cv == cv') = false from beq_eq_false_iff_ne.2 h_cv)
                        clear h_cv gB gC gN gT gS A1 A2 A3 A4 A5 B1 B2 B3 B4 B5 rC rC' cQ cR cQ' cR' cN cN' cG cG'
                        go_wp2
                        go_ret
                        exact ⟨by rw [E_cv.out]; simp, hBb⟩
                      · have n_cv : (cv != cv') = false := by rw [h_cv]; simp
                        have E_cv := hide (show (cv == cv') = true from beq_iff_eq.2 h_cv)
                        clear h_cv
                        replace A1 := A1.below hBW
                        replace B1 := B1.below hBW
                        replace A2 := A2.below hBW
                        replace B2 := B2.below hBW
                        replace A3 := A3.below hBW
                        replace B3 := B3.below hBW
                        replace A4 := A4.below hBW
                        replace B4 := B4.below hBW
                        replace A5 := A5.below hBW
                        replace B5 := B5.below hBW
                        have G2 := gC w3 A2 B2
                        clear hBW
                        go_wp2_with fail
                        refine G2.mono ?_
                        rintro e5 w5 ⟨rfl, hb5⟩
                        have up := fun i v (h : w3.cell? ⟨w.heap.size, i, none⟩ = some v) => (hb5.cell (p := ⟨w.heap.size, i, none⟩) (show w.heap.size < w3.heap.size by omega)).trans h
                        replace cQ := up _ _ cQ
                        replace cR := up _ _ cR
                        replace cN := up _ _ cN
                        replace cG := up _ _ cG
                        replace rC := range_below rC hb5 (by omega)
                        clear up
                        have up' := fun i v (h : w3.cell? ⟨w.heap.size + 1, i, none⟩ = some v) => (hb5.cell (p := ⟨w.heap.size + 1, i, none⟩) (show w.heap.size + 1 < w3.heap.size by omega)).trans h
                        replace cQ' := up' _ _ cQ'
                        replace cR' := up' _ _ cR'
                        replace cN' := up' _ _ cN'
                        replace cG' := up' _ _ cG'
                        replace rC' := range_below rC' hb5 (by omega)
                        clear up'
                        have hs5 := Nat.le_trans hs4 hb5.size
                        have hB5 := hBb.trans (hb5.mono (by omega))
                        replace A1 := A1.below hb5
                        replace B1 := B1.below hb5
                        replace A3 := A3.below hb5
                        replace B3 := B3.below hb5
                        replace A4 := A4.below hb5
                        replace B4 := B4.below hb5
                        replace A5 := A5.below hb5
                        replace B5 := B5.below hb5
                        have G1 := gB w5 A1 B1
                        clear hb5 hBb hs4 G2 gC A2 B2 gB A1 B1 d0 d1 d2 d3 f0 f1 f2 f3
                        cases b2
                        · clear G1 gN gT gS A3 A4 A5 B3 B4 B5
                          go_wp2
                          go_ret
                          exact ⟨by rw [E_k.out, E_e.out, E_l.out, E_v.out, E_s.out, E_st.out, E_ce.out, E_cl.out, E_cv.out]; simp, hB5⟩
                        · go_upto_region 7 with fail
                          go_wp2_with fail
                          refine G1.mono ?_
                          rintro e6 w6 ⟨rfl, hb6⟩
                          have up := fun i v (h : w5.cell? ⟨w.heap.size, i, none⟩ = some v) => (hb6.cell (p := ⟨w.heap.size, i, none⟩) (show w.heap.size < w5.heap.size by omega)).trans h
                          replace cN := up _ _ cN
                          replace cG := up _ _ cG
                          replace rC := range_below rC hb6 (by omega)
                          clear up
                          have up' := fun i v (h : w5.cell? ⟨w.heap.size + 1, i, none⟩ = some v) => (hb6.cell (p := ⟨w.heap.size + 1, i, none⟩) (show w.heap.size + 1 < w5.heap.size by omega)).trans h
                          replace cN' := up' _ _ cN'
                          replace cG' := up' _ _ cG'
                          replace rC' := range_below rC' hb6 (by omega)
                          clear up'
                          have hs6 := Nat.le_trans hs5 hb6.size
                          have hB6 := hB5.trans (hb6.mono (by omega))
                          have G3 := gN w6 (A3.below hb6) (B3.below hb6)
                          replace A4 := A4.below hb6
                          replace B4 := B4.below hb6
                          replace A5 := A5.below hb6
                          replace B5 := B5.below hb6
                          clear hb6 hB5 hs5 G1 gN A3 B3 cQ cR cQ' cR'
                          cases b1
                          · clear G3 gT gS A4 A5 B4 B5
                            go_wp2
                            go_ret
                            exact ⟨by rw [E_k.out, E_e.out, E_l.out, E_v.out, E_s.out, E_st.out, E_ce.out, E_cl.out, E_cv.out]; simp, hB6⟩
                          · go_wp2_with fail
                            refine G3.mono ?_
                            rintro e7 w7 ⟨rfl, hb7⟩
                            have up := fun i v (h : w6.cell? ⟨w.heap.size, i, none⟩ = some v) => (hb7.cell (p := ⟨w.heap.size, i, none⟩) (show w.heap.size < w6.heap.size by omega)).trans h
                            replace cG := up _ _ cG
                            replace rC := range_below rC hb7 (by omega)
                            clear up
                            have up' := fun i v (h : w6.cell? ⟨w.heap.size + 1, i, none⟩ = some v) => (hb7.cell (p := ⟨w.heap.size + 1, i, none⟩) (show w.heap.size + 1 < w6.heap.size by omega)).trans h
                            replace cG' := up' _ _ cG'
                            replace rC' := range_below rC' hb7 (by omega)
                            clear up'
                            have hs7 := Nat.le_trans hs6 hb7.size
                            have hB7 := hB6.trans (hb7.mono (by omega))
                            have G4 := gT w7 (A4.below hb7) (B4.below hb7)
                            replace A5 := A5.below hb7
                            replace B5 := B5.below hb7
                            clear hb7 hB6 hs6 G3 gT A4 B4 cN cN'
                            cases b3
                            · clear G4 gS A5 B5
                              go_wp2
                              go_ret
                              exact ⟨by rw [E_k.out, E_e.out, E_l.out, E_v.out, E_s.out, E_st.out, E_ce.out, E_cl.out, E_cv.out]; simp, hB7⟩
                            · go_wp2_with (first | (refine wpList_load_g (by rfl) 35 _ rfl _ _ rfl uc _ rC Tryz.underlying35 rfl ic ?_) | (refine wpList_load_g (by rfl) 35 _ rfl _ _ rfl uc' _ rC' Tryz.underlying35 rfl ic' ?_))
                              refine G4.mono ?_
                              rintro e8 w8 ⟨rfl, hb8⟩
                              have up := fun i v (h : w7.cell? ⟨w.heap.size, i, none⟩ = some v) => (hb8.cell (p := ⟨w.heap.size, i, none⟩) (show w.heap.size < w7.heap.size by omega)).trans h
                              replace cG := up _ _ cG
                              clear up
                              have up' := fun i v (h : w7.cell? ⟨w.heap.size + 1, i, none⟩ = some v) => (hb8.cell (p := ⟨w.heap.size + 1, i, none⟩) (show w.heap.size + 1 < w7.heap.size by omega)).trans h
                              replace cG' := up' _ _ cG'
                              clear up'
                              have hB8 := hB7.trans (hb8.mono (by omega))
                              have G5 := gS w8 (A5.below hb8) (B5.below hb8)
                              clear hb8 hB7 G4 gS A5 B5 rC rC'
                              cases b4
                              · clear G5
                                go_wp2
                                go_ret
                                exact ⟨by rw [E_k.out, E_e.out, E_l.out, E_v.out, E_s.out, E_st.out, E_ce.out, E_cl.out, E_cv.out]; simp, hB8⟩
                              · go_wp2_with fail
                                refine G5.mono ?_
                                rintro e9 w9 ⟨rfl, hb9⟩
                                have hB9 := hB8.trans (hb9.mono hB8.size)
                                clear hb9
                                cases b5
                                · go_wp2
                                  go_ret
                                  exact ⟨by rw [E_k.out, E_e.out, E_l.out, E_v.out, E_s.out, E_st.out, E_ce.out, E_cl.out, E_cv.out]; simp, hB9⟩
                                · go_wp2
                                  go_ret
                                  exact ⟨by rw [E_k.out, E_e.out, E_l.out, E_v.out, E_s.out, E_st.out, E_ce.out, E_cl.out, E_cv.out]; simp, hB9⟩
end Go.Proofs.YtgjalkbianpibaaGreat
namespace Go.Proofs.YtgjalkbianpibaaGreat
open Go.RowKit
open Sha Tal
/-- a message is read, another one is laid beside it -/
structure Bst (w X : World) (b2 : Nat) (q : List Value) : Prop where
  A : X.rangeAt w.heap.size 0 q
  T : X.there b2 0 119
  T1 : X.there (w.heap.size + 1) 0 119
  B : Below w.heap.size w X
  h2 : w.heap.size + 2 ≤ b2
  hs : b2 < X.heap.size
theorem Bst.put {w X : World} {b2 : Nat} {q : List Value} (h : Bst w X b2 q) (o : Nat) (vs : List Value) : Bst w (X.setCells b2 o vs) b2 q :=
  ⟨World.rangeAt_setCells_apart h.A _ _ _ (.inl (by have := h.h2; omega)), World.there_setCells h.T _ _ _, World.there_setCells h.T1 _ _ _, below_sets (by have := h.h2; omega) vs o _ h.B, h.h2, by rw [size_sets]; exact h.hs⟩
theorem Bst.below {w X Y : World} {b2 : Nat} {q : List Value} (h : Bst w X b2 q) (hb : Below X.heap.size X Y) : Bst w Y b2 q :=
  ⟨range_below h.A hb (by have := h.h2; have := h.hs; omega), there_below h.T hb h.hs, there_below h.T1 hb (by have := h.h2; have := h.hs; omega), h.B.trans (hb.mono h.B.size), h.h2, Nat.lt_of_lt_of_le h.hs hb.size⟩
theorem Bst.part {w X : World} {b2 : Nat} {q : List Value} (h : Bst w X b2 q) (o n : Nat) (hn : o + n ≤ 119) : X.there b2 o n := by
  have := there_part h.T o n hn
  rwa [Nat.zero_add] at this
theorem put_e {c : Ms} {X : World} {b : Nat} (x : Int) (r : X.rangeAt b 0 c.cells) (ht : X.there b 1 1) : (X.setCells b 1 [.int .i64 x]).rangeAt b 0 { c with e := x }.cells :=
  range_put (pre := [Value.int .i64 c.k]) (mid := [.int .i64 c.e]) (vs := [.int .i64 x]) r 1 rfl ht rfl
theorem put_l {c : Ms} {X : World} {b : Nat} (x : Int) (r : X.rangeAt b 0 c.cells) (ht : X.there b 2 1) : (X.setCells b 2 [.int .i64 x]).rangeAt b 0 { c with l := x }.cells :=
  range_put (pre := [Value.int .i64 c.k, Value.int .i64 c.e]) (mid := [.int .i64 c.l]) (vs := [.int .i64 x]) r 2 rfl ht rfl
theorem put_v {c : Ms} {X : World} {b : Nat} (x : Int) (r : X.rangeAt b 0 c.cells) (ht : X.there b 3 1) : (X.setCells b 3 [.int .i64 x]).rangeAt b 0 { c with v := x }.cells :=
  range_put (pre := [Value.int .i64 c.k, Value.int .i64 c.e, Value.int .i64 c.l]) (mid := [.int .i64 c.v]) (vs := [.int .i64 x]) r 3 rfl ht rfl
theorem put_s {c : Ms} {X : World} {b : Nat} (x : Int) (r : X.rangeAt b 0 c.cells) (ht : X.there b 4 1) : (X.setCells b 4 [.int .i64 x]).rangeAt b 0 { c with s := x }.cells :=
  range_put (pre := [Value.int .i64 c.k, Value.int .i64 c.e, Value.int .i64 c.l, Value.int .i64 c.v]) (mid := [.int .i64 c.s]) (vs := [.int .i64 x]) r 4 rfl ht rfl
theorem put_b {c : Ms} {X : World} {b : Nat} (x : Bool) (y : Value) (r : X.rangeAt b 0 c.cells) (ht : X.there b 5 2) : (X.setCells b 5 [.bool x, y]).rangeAt b 0 { c with q := x, rs := y }.cells :=
  range_put (pre := [Value.int .i64 c.k, .int .i64 c.e, .int .i64 c.l, .int .i64 c.v, .int .i64 c.s]) (mid := [.bool c.q, c.rs]) (vs := [.bool x, y]) r 5 rfl ht rfl
theorem put_vt {c : Ms} {X : World} {b : Nat} (x : Vt) (hx : x.ok) (hc : c.vt.ok) (r : X.rangeAt b 0 c.cells) (ht : X.there b 7 36) : (X.setCells b 7 x.cells).rangeAt b 0 { c with vt := x }.cells :=
  range_put (pre := [.int .i64 c.k, .int .i64 c.e, .int .i64 c.l, .int .i64 c.v, .int .i64 c.s, .bool c.q, c.rs]) (mid := c.vt.cells) (vs := x.cells) r 7 rfl (by rw [hx.len]; exact ht) (by rw [hx.len, hc.len])
theorem put_ch {c : Ms} {X : World} {b : Nat} (x y z : Int) (u : Value) (hc : c.vt.ok) (r : X.rangeAt b 0 c.cells) (ht : X.there b 43 4) : (X.setCells b 43 [.int .i64 x, .int .i64 y, .int .i64 z, u]).rangeAt b 0 { c with ce := x, cl := y, cv := z, he := u }.cells := by
  have h := range_put (pre := [.int .i64 c.k, .int .i64 c.e, .int .i64 c.l, .int .i64 c.v, .int .i64 c.s, .bool c.q, c.rs] ++ c.vt.cells) (mid := [.int .i64 c.ce, .int .i64 c.cl, .int .i64 c.cv, c.he]) (vs := [.int .i64 x, .int .i64 y, .int .i64 z, u]) (post := c.ne :: (v8 c.d ++ (c.ct.cells ++ [c.cs, .string c.st, c.sg]))) (by simpa [Ms.cells, List.append_assoc] using r) 43 (by simp [hc.len]) ht rfl
  simpa [Ms.cells, List.append_assoc] using h
theorem put_ne {c : Ms} {X : World} {b : Nat} (x : Value) (hc : c.vt.ok) (r : X.rangeAt b 0 c.cells) (ht : X.there b 47 1) : (X.setCells b 47 [x]).rangeAt b 0 { c with ne := x }.cells := by
  have h := range_put (pre := [.int .i64 c.k, .int .i64 c.e, .int .i64 c.l, .int .i64 c.v, .int .i64 c.s, .bool c.q, c.rs] ++ c.vt.cells ++ [.int .i64 c.ce, .int .i64 c.cl, .int .i64 c.cv, c.he]) (mid := [c.ne]) (vs := [x]) (post := v8 c.d ++ (c.ct.cells ++ [c.cs, .string c.st, c.sg])) (by simpa [Ms.cells, List.append_assoc] using r) 47 (by simp [hc.len]) ht rfl
  simpa [Ms.cells, List.append_assoc] using h
theorem put_d {c : Ms} {X : World} {b : Nat} (x : List Int) (hx : x.length = 32) (hd : c.d.length = 32) (hc : c.vt.ok) (r : X.rangeAt b 0 c.cells) (ht : X.there b 48 32) : (X.setCells b 48 (v8 x)).rangeAt b 0 { c with d := x }.cells := by
  have h := range_put (pre := [.int .i64 c.k, .int .i64 c.e, .int .i64 c.l, .int .i64 c.v, .int .i64 c.s, .bool c.q, c.rs] ++ c.vt.cells ++ [.int .i64 c.ce, .int .i64 c.cl, .int .i64 c.cv, c.he, c.ne]) (mid := v8 c.d) (vs := v8 x) (post := c.ct.cells ++ [c.cs, .string c.st, c.sg]) (by simpa [Ms.cells, List.append_assoc] using r) 48 (by simp [hc.len]) (by rw [v8_length, hx]; exact ht) (by rw [v8_length, v8_length, hx, hd])
  simpa [Ms.cells, List.append_assoc] using h
theorem put_ct {c : Ms} {X : World} {b : Nat} (x : Vt) (y : Value) (hx : x.ok) (hy : c.ct.ok) (hd : c.d.length = 32) (hc : c.vt.ok) (r : X.rangeAt b 0 c.cells) (ht : X.there b 80 37) : (X.setCells b 80 (x.cells ++ [y])).rangeAt b 0 { c with ct := x, cs := y }.cells := by
  have h := range_put (pre := [.int .i64 c.k, .int .i64 c.e, .int .i64 c.l, .int .i64 c.v, .int .i64 c.s, .bool c.q, c.rs] ++ c.vt.cells ++ [.int .i64 c.ce, .int .i64 c.cl, .int .i64 c.cv, c.he, c.ne] ++ v8 c.d) (mid := c.ct.cells ++ [c.cs]) (vs := x.cells ++ [y]) (post := [.string c.st, c.sg]) (by simpa [Ms.cells, List.append_assoc] using r) 80 (by simp [hc.len, hd]) (by simp [hx.len]; exact ht) (by simp [hx.len, hy.len])
  simpa [Ms.cells, List.append_assoc] using h
theorem put_st {c : Ms} {X : World} {b : Nat} (x : ByteArray) (hy : c.ct.ok) (hd : c.d.length = 32) (hc : c.vt.ok) (r : X.rangeAt b 0 c.cells) (ht : X.there b 117 1) : (X.setCells b 117 [.string x]).rangeAt b 0 { c with st := x }.cells := by
  have h := range_put (pre := [.int .i64 c.k, .int .i64 c.e, .int .i64 c.l, .int .i64 c.v, .int .i64 c.s, .bool c.q, c.rs] ++ c.vt.cells ++ [.int .i64 c.ce, .int .i64 c.cl, .int .i64 c.cv, c.he, c.ne] ++ v8 c.d ++ (c.ct.cells ++ [c.cs])) (mid := [.string c.st]) (vs := [.string x]) (post := [c.sg]) (by simpa [Ms.cells, List.append_assoc] using r) 117 (by simp [hc.len, hd, hy.len]) ht rfl
  simpa [Ms.cells, List.append_assoc] using h
theorem put_sg {c : Ms} {X : World} {b : Nat} (x : Value) (hy : c.ct.ok) (hd : c.d.length = 32) (hc : c.vt.ok) (r : X.rangeAt b 0 c.cells) (ht : X.there b 118 1) : (X.setCells b 118 [x]).rangeAt b 0 { c with sg := x }.cells := by
  have h := range_put (pre := [.int .i64 c.k, .int .i64 c.e, .int .i64 c.l, .int .i64 c.v, .int .i64 c.s, .bool c.q, c.rs] ++ c.vt.cells ++ [.int .i64 c.ce, .int .i64 c.cl, .int .i64 c.cv, c.he, c.ne] ++ v8 c.d ++ (c.ct.cells ++ [c.cs, .string c.st])) (mid := [c.sg]) (vs := [x]) (post := []) (by simpa [Ms.cells, List.append_assoc] using r) 118 (by simp [hc.len, hd, hy.len]) ht rfl
  simpa [Ms.cells, List.append_assoc] using h
end Go.Proofs.YtgjalkbianpibaaGreat
namespace Go.Proofs.YtgjalkbianpibaaGreat
open Go.RowKit
open Sha Tal
def Ms.bare6 (m : Ms) : Ms := { Ms.plain 6 0 0 Vt.zero zeros32 with e := m.e, s := m.s }
end Go.Proofs.YtgjalkbianpibaaGreat
namespace Go.Proofs.YtgjalkbianpibaaGreat
open Go.RowKit
open Sha Tal
def Sg.zero : Sg := ⟨0, List.replicate 16 0⟩
def Ev.zero : Ev := ⟨0, ⟨#[]⟩, List.replicate 16 0⟩
def Rq.zero : Rq := ⟨0, 0, ⟨#[]⟩, List.replicate 16 0⟩
end Go.Proofs.YtgjalkbianpibaaGreat
namespace Go.Proofs.YtgjalkbianpibaaGreat
open Go.RowKit
open Sha Tal
def Mg.plain (k : Int) : Mg := ⟨k, 0, 0, 0, 0, false, ⟨none, 0, []⟩, Vt.zero, 0, 0, 0, ⟨none, 0, []⟩, ⟨none, 0, []⟩, zeros32, Vt.zero, ⟨none, 0, []⟩, ⟨#[]⟩, ⟨none, 0, []⟩⟩
theorem Mg.plain_ok (k : Int) : (Mg.plain k).ok := ⟨Vt.zero_ok, Vt.zero_ok, zeros32_len, zeros32_byte⟩
theorem hds_none {w : World} : HdsAt w ⟨none, 0, []⟩ := ⟨RowsAt.none, fun _ h => by cases h⟩
end Go.Proofs.YtgjalkbianpibaaGreat
namespace Go.Proofs.YtgjalkbianpibaaGreat
open Go.RowKit
open Sha Tal
set_option linter.unusedVariables false
set_option linter.unusedSimpArgs false
structure Bat where
  q : Bool
  a : Option Addr
  cap : Nat
  rs : List BRq
def Bat.cells (x : Bat) : List Value := [.bool x.q, .slice x.a x.rs.length x.cap]
def Bat.at (x : Bat) (w : World) : Prop := ReqsAt w x.a x.rs ∧ True ∧ True
theorem Bat.at.below {x : Bat} {w w' : World} (h : x.at w) (hb : Below w.heap.size w w') : x.at w' := ⟨h.1.below hb, h.2.1, h.2.2⟩
def BatsAt (w : World) (b : Nat) (xs : List Bat) : Prop := xs.length ≤ 2 ∧ (∀ x ∈ xs, x.at w) ∧ b < w.heap.size ∧ w.rangeAt b 0 (xs.flatMap Bat.cells)
theorem BatsAt.below {w w' : World} {b : Nat} {xs : List Bat} (h : BatsAt w b xs) (hb : Below w.heap.size w w') : BatsAt w' b xs :=
  ⟨h.1, fun x hx => (h.2.1 x hx).below hb, Nat.lt_of_lt_of_le h.2.2.1 hb.size, range_below h.2.2.2 hb h.2.2.1⟩
theorem BatsAt.cell {w : World} {b : Nat} {xs : List Bat} (h : BatsAt w b xs) (k : Nat) (hk : k < xs.length) : w.cell? ⟨b, k * 2 + 1, none⟩ = some (.slice xs[k].a xs[k].rs.length xs[k].cap) := by
  have h4 := h.2.2.2
  have h1 := h.1
  match xs, k, hk, h4 with
  | [x], 0, _, h4 => exact h4 1 _ rfl
  | [x, y], 0, _, h4 => exact h4 1 _ rfl
  | [x, y], 1, _, h4 => exact h4 3 _ rfl
  | x :: y :: z :: l, _, _, _ => simp at h1
end Go.Proofs.YtgjalkbianpibaaGreat
namespace Go.Proofs.YtgjalkbianpibaaGreat
open Go.RowKit
open Sha Tal
set_option linter.unusedVariables false
set_option linter.unusedSimpArgs false
set_option maxHeartbeats 1600000 in
theorem raw_big (R : Nat) (rest : List Int) (e n : Int) (w : World) (h : St w R rest e) (hl : rest.length ≤ 40000) :
    Calls Tryz.prog 124 #[.pointer (some ⟨R, 0, none⟩), .int .i64 n] w fun en w' => ∃ v, en = .returned v ∧ Mine w' w.heap.size v (rawS rest e n).1 ∧ St w' R (rawS rest e n).2.1 (rawS rest e n).2.2 ∧ w.grownBy w' (some R) := by
  by_cases he : e = 0
  · subst he
    by_cases hn : n < 0
    · have HS : Hid (rawS rest 0 n = ([], rest, 2)) := by show _ = _; unfold rawS; rw [if_pos rfl, if_pos hn]
      go_enter Tryz.func124, Tryz.ntmps124
      go_wp2_with fail
      refine (err_made R 0 w h.1).mono ?_
      rintro en w1 ⟨rfl, rfl⟩
      go_wp2_with fail
      refine (fail_any R 0 2 w1 h.1).mono ?_
      rintro en w2 ⟨rfl, hE2, hg2⟩
      go_wp2_with fail
      go_ret
      rw [HS.out]
      exact ⟨_, rfl, Mine.nil _ _, ⟨hE2, fun h => by cases h⟩, hg2⟩
    · by_cases hf : (rest.length : Int) < n
      · have HS : Hid (rawS rest 0 n = ([], rest, 10)) := by show _ = _; unfold rawS; rw [if_pos rfl, if_neg hn, if_pos hf]
        go_enter Tryz.func124, Tryz.ntmps124
        go_wp2_with fail
        refine (err_made R 0 w h.1).mono ?_
        rintro en w1 ⟨rfl, rfl⟩
        go_wp2_with fail
        refine (next_few R rest n w1 h hf).mono ?_
        rintro en w2 ⟨rfl, hS2, hg2⟩
        have cc := clone_any none 0 [] w2 (nil_row w2) (by simp)
        simp only [List.length_nil] at cc
        go_wp2_with fail
        refine cc.mono ?_
        rintro en w3 ⟨v, rfl, hm, hb⟩
        go_wp2_with fail
        go_ret
        rw [HS.out]
        exact ⟨_, rfl, hm.mono' hg2.size, hS2.below hb, gb_trans hg2 (gb_below hb _)⟩
      · have HS : Hid (rawS rest 0 n = (rest.take n.toNat, rest.drop n.toNat, 0)) := by show _ = _; unfold rawS; rw [if_pos rfl, if_neg hn, if_neg hf]
        go_enter Tryz.func124, Tryz.ntmps124
        go_wp2_with fail
        refine (err_made R 0 w h.1).mono ?_
        rintro en w1 ⟨rfl, rfl⟩
        go_wp2_with fail
        refine (next_there R rest n w1 h (by omega) (by omega)).mono ?_
        rintro en w2 ⟨a, cap, rfl, hca, hra, hS2, hg2⟩
        have cc := clone_any a cap (rest.take n.toNat) w2 hra (by rw [List.length_take]; omega)
        rw [List.length_take_of_le (by omega)] at cc
        go_wp2_with fail
        refine cc.mono ?_
        rintro en w3 ⟨v, rfl, hm, hb⟩
        go_wp2_with fail
        go_ret
        rw [HS.out]
        exact ⟨_, rfl, hm.mono' hg2.size, hS2.below hb, gb_trans hg2 (gb_below hb _)⟩
  · have HS : Hid (rawS rest e n = ([], rest, e)) := by show _ = _; unfold rawS; rw [if_neg he]
    have he' : (e == 0) = false := by simpa using he
    go_enter Tryz.func124, Tryz.ntmps124
    go_wp2_with fail
    refine (err_made R e w h.1).mono ?_
    rintro en w1 ⟨rfl, rfl⟩
    go_wp2_with fail
    go_ret
    rw [HS.out]
    exact ⟨_, rfl, Mine.nil _ _, h, gb_refl _ _⟩
theorem gb_onR {w W W' : World} {R B : Nat} (h : w.grownBy W (some R)) (hb : Below B W W') (hB : w.heap.size ≤ B) : w.grownBy W' (some R) :=
  ⟨hb.os.trans h.os, hb.tape.trans h.tape, hb.output.trans h.output, Nat.le_trans h.size hb.size, fun i hi hr => (hb.block i (by omega)).trans (h.block i hi hr)⟩
theorem gb_setsR (W : World) (b : Nat) : ∀ (vs : List Value) (o : Nat), W.grownBy (W.setCells b o vs) (some b) := by
  intro vs
  induction vs generalizing W with
  | nil => intro o; exact gb_refl _ _
  | cons v vs ih => intro o; exact gb_trans (gb_set W b o v) (ih _ (o + 1))
theorem range_gbR {w w' : World} {R b : Nat} {cs : List Value} (h : w.rangeAt b 0 cs) (hg : w.grownBy w' (some R)) (hb : b < w.heap.size) (hne : b ≠ R) : w'.rangeAt b 0 cs := fun j v hv => by
  rw [(@cell_block w w' b (0 + j) (hg.block b hb (by intro q; injection q with q; exact hne q))).1]
  exact h j v hv
theorem there_gbR {w w' : World} {R b n : Nat} (h : w.there b 0 n) (hg : w.grownBy w' (some R)) (hb : b < w.heap.size) (hne : b ≠ R) : w'.there b 0 n := fun j hj => by
  have hk := @cell_block w w' b (0 + j) (hg.block b hb (by intro q; injection q with q; exact hne q))
  exact ⟨by rw [hk.1]; exact (h j hj).1, by rw [hk.2]; exact (h j hj).2⟩
theorem exec_copy {P : Program} {o : Oper} {a : Act} {w w' : World} {s x : Operand} {t tx : TypeId} {v xv v' : Value} (ho : o.op = .call { callee := .builtin .copy, args := #[s, x], argTypes := #[t, tx] }) (hv : a.eval s = v) (hx : a.eval x = xv)
    (hr : (Builtin.copy_ #[t, tx] o.type #[v, xv]).run P w = .ok v' w') : (execOp a.eval o).run P w = .ok (.value v') w' := by
  unfold execOp
  simp only [ho, resolve, invoke, builtin, Sem.run_bind, Sem.run_pure, Result.andThen_ok, List.map_toArray, List.map_cons, List.map_nil, hv, hx, hr]
theorem numS_len (rest : List Int) (e most : Int) : (numS rest e most).2.1.length ≤ rest.length := by
  unfold numS
  split
  · split
    · split
      · exact Nat.le_refl _
      · show (rest.drop _).length ≤ _; rw [List.length_drop]; omega
    · exact Nat.le_refl _
  · exact Nat.le_refl _
theorem textS_len (rest : List Int) (e most : Int) : (textS rest e most).2.1.length ≤ rest.length := by
  have h := numS_len rest e 9223372036854775807
  unfold textS
  split
  · split
    · exact Nat.le_refl _
    · split
      · exact Nat.le_refl _
      · show ((numS rest e 9223372036854775807).2.1.drop _).length ≤ _; rw [List.length_drop]; omega
  · exact Nat.le_refl _
/-- n bytes, or none, as n cells -/
def padN (n : Nat) (zs : List Int) : List Int := if zs.length = n then zs else List.replicate n 0
theorem rawS_len (rest : List Int) (e n : Int) : (rawS rest e n).2.1.length ≤ rest.length := by
  unfold rawS
  split
  · split
    · exact Nat.le_refl _
    · split
      · exact Nat.le_refl _
      · show (rest.drop _).length ≤ _; rw [List.length_drop]; omega
  · exact Nat.le_refl _
theorem rawS_N (rest : List Int) (e : Int) (n : Nat) : (rawS rest e n).1.length = n ∨ (rawS rest e n).1 = [] := by
  unfold rawS
  split
  · split
    · exact .inr rfl
    · split
      · exact .inr rfl
      · left; show (rest.take _).length = n; rw [List.length_take]; omega
  · exact .inr rfl
theorem copy_pad {w : World} {B n : Nat} {a : Option Addr} {cap : Nat} {t : List Int} (h0 : 0 < n) (hT : w.there B 0 n) (hz : w.rangeAt B 0 (v8 (List.replicate n (0 : Int)))) (hrow : RowAt w a t) (ht : t.length = n ∨ t = []) :
    ∃ w', (Builtin.copy_ #[59, 59] 3 #[.slice (some ⟨B, 0, none⟩) n n, .slice a t.length cap]).run Tryz.prog w = .ok (goInt t.length) w' ∧ w'.rangeAt B 0 (v8 (padN n t)) ∧ w' = w.setCells B 0 (v8 t) := by
  rcases ht with ht | rfl
  · rcases hrow.2.2 with rfl | ⟨b, off, rfl, hb, hr⟩
    · exfalso; simp at ht; omega
    · refine ⟨_, ?_, ?_, rfl⟩
      · have := run_copy_cells (P := Tryz.prog) w 59 59 3 5 B 0 n n ⟨b, off, none⟩ t.length cap (v8 t) Tryz.underlying59 isz8 (by rw [v8_length, ht]; exact (Nat.min_self _).symm) (fun j v hv => by rw [Addr.add_mid]; exact hr j v hv) (fun j hj => by rw [v8_length] at hj; exact (hT j (by omega)).1) (fun j hj => by rw [v8_length] at hj; exact (hT j (by omega)).2) (v8_one _)
        rw [v8_length] at this
        exact this
      · unfold padN
        rw [if_pos ht]
        exact World.rangeAt_setCells_same w B 0 (v8 t) (by rw [v8_length, ht]; exact hT)
  · refine ⟨w, run_copy_none (P := Tryz.prog) w 59 59 3 5 _ a n n 0 cap Tryz.underlying59 isz8 (by simp), ?_, rfl⟩
    unfold padN
    rw [if_neg (by simp; omega)]
    exact hz
theorem padN_len (n : Nat) (zs : List Int) : (padN n zs).length = n := by
  unfold padN
  split
  · assumption
  · simp
theorem there_belowN {w w' : World} {b n : Nat} (h : w.there b 0 n) (hb : Below w.heap.size w w') (hlt : b < w.heap.size) : w'.there b 0 n := there_blk h (hb.block b hlt)
theorem blk_sets {w : World} {b q o : Nat} {vs : List Value} (h : q ≠ b) : (w.setCells b o vs).heap[q]? = w.heap[q]? := by
  by_cases hq : q < w.heap.size
  · exact (gb_setsR w b vs o).block q hq (by intro e; injection e with e; exact h e)
  · have h1 : w.heap.size ≤ q := by omega
    rw [Array.getElem?_eq_none (by rw [size_sets]; exact h1), Array.getElem?_eq_none h1]
set_option maxRecDepth 100000 in
set_option maxHeartbeats 1000000 in
theorem rtag_any (Q R : Nat) (z : Bool) (rest : List Int) (e : Int) (w : World) (h : St w R rest e) (hq : MrAt w Q R z) (hl : rest.length ≤ 40000) : Calls Tryz.prog 123 #[.pointer (some ⟨Q, 0, none⟩)] w fun en w' => en = .returned (.agg (v8 (padN 16 (rawS rest e 16).1)).toArray) ∧ St w' R (rawS rest e 16).2.1 (rawS rest e 16).2.2 ∧ w.grownBy w' (some R) := by
  obtain ⟨zc, hzc, hzr⟩ : ∃ zc : List Value, Hid (zc = v8 (List.replicate 16 (0 : Int))) ∧ ∀ w' : World, (zeroValue 55).run Tryz.prog w' = .ok (.agg zc.toArray) w' := ⟨_, hide rfl, fun w => by kernel_rfl⟩
  have hRw := h.1.1
  have hQw := hq.lt
  obtain ⟨hB1, hr1, hs1⟩ := boxed_new w zc 55
  have ht1 := there_newN w zc.toArray 55 (n := 16) (by rw [hzc.out]; simp)
  have hip : (Tryz.prog.info? 55).map (·.size) = some (v8 (padN 16 (rawS rest e 16).1)).length := by rw [v8_length, padN_len]; kernel_rfl
  have hp1 := v8_one (padN 16 (rawS rest e 16).1)
  have hpl : (v8 (padN 16 (rawS rest e 16).1)).length = 16 := by rw [v8_length, padN_len]
  obtain ⟨pc, hpc⟩ : ∃ p, Hid (v8 (padN 16 (rawS rest e 16).1) = p) := ⟨_, hide rfl⟩
  rw [hpc.out] at hip hp1 hpl ⊢
  go_enter Tryz.func123, Tryz.ntmps123
  go_upto_region 0 with fail
  try simp only [Act.put]
  refine pl_begin ?_
  refine pl_run (d := some 2) (v := .pointer (some ⟨w.heap.size, 0, none⟩)) (w' := w.alloc (.cells zc.toArray 55)) (by rfl) (ex_alloc rfl (hzr _)) rfl ?_
  simp only [Act.put, List.setIfInBounds_toArray, List.set_cons_zero, List.set_cons_succ]
  refine pl_nil ?_
  obtain ⟨W1, hW1⟩ : ∃ W, w.alloc (.cells zc.toArray 55) = W := ⟨_, rfl⟩
  rw [hW1] at hB1 hr1 hs1 ht1 ⊢
  clear hW1
  obtain ⟨hB2, hr2, hs2⟩ := boxed_new W1 zc 55
  have ht2 := there_newN W1 zc.toArray 55 (n := 16) (by rw [hzc.out]; simp)
  go_upto_region 1 with fail
  try simp only [Act.put]
  refine pl_begin ?_
  refine pl_run (d := some 3) (v := .pointer (some ⟨W1.heap.size, 0, none⟩)) (w' := W1.alloc (.cells zc.toArray 55)) (by rfl) (ex_alloc rfl (hzr _)) rfl ?_
  simp only [Act.put, List.setIfInBounds_toArray, List.set_cons_zero, List.set_cons_succ]
  refine pl_nil ?_
  obtain ⟨W2, hW2⟩ : ∃ W, W1.alloc (.cells zc.toArray 55) = W := ⟨_, rfl⟩
  rw [hW2] at hB2 hr2 hs2 ht2 ⊢
  clear hW2
  rw [hzc.out] at hr2
  have thA0 := there_belowN ht1 hB2 hs1
  have hBW := hB1.trans (hB2.mono hB1.size)
  clear hr1 ht1 hzr hzc
  go_upto_region 2 with fail
  have hB8 : Below w.heap.size w W2.drew := hBW.drew
  have rz8 : W2.drew.rangeAt W1.heap.size 0 _ := (World.rangeAt_drew _ _ _ _).2 hr2
  have th8 : W2.drew.there W1.heap.size 0 16 := ht2
  have thA8 : W2.drew.there w.heap.size 0 16 := thA0
  have hB1' : W1.heap.size < W2.drew.heap.size := hs2
  refine hs_begin (S := (fun W' => MrAt W' Q R z)) 7 rfl (by kernel_rfl) ?_
  obtain ⟨w8, hw8⟩ : ∃ W, W2.drew = W := ⟨_, rfl⟩
  rw [hw8] at hB8 rz8 th8 thA8 hB1' ⊢
  clear hw8 hr2 ht2 thA0 hBW hs2 hB2
  have st8 := h.below hB8
  have hq8 := hq.below hB8
  have hne1 : W1.heap.size ≠ R := by omega
  have hS : (fun W' => MrAt W' Q R z) w8 := hq8
  refine hs_take (i := 0) (d := some 4) (v := ?_) rfl (by kernel_rfl) (by kernel_rfl) (by kernel_rfl) (by rfl) ?_ hS rfl ?_
  rotate_left
  · intro w' hw
    go_simp
    try with_reducible rfl
  simp only [Act.put, List.setIfInBounds_toArray, List.set_cons_zero, List.set_cons_succ]
  refine hs_take (i := 1) (d := some 5) (v := ?_) rfl (by kernel_rfl) (by kernel_rfl) (by kernel_rfl) (by rfl) ?_ hS rfl ?_
  rotate_left
  · intro w' hw
    go_simp
    try with_reducible rfl
  simp only [Act.put, List.setIfInBounds_toArray, List.set_cons_zero, List.set_cons_succ]
  refine hs_take (i := 2) (d := some 6) (v := ?_) rfl (by kernel_rfl) (by kernel_rfl) (by kernel_rfl) (by rfl) ?_ hS rfl ?_
  rotate_left
  · intro w' hw
    go_simp
    try with_reducible rfl
  simp only [Act.put, List.setIfInBounds_toArray, List.set_cons_zero, List.set_cons_succ]
  refine hs_take (i := 3) (d := some 7) (v := ?_) rfl (by kernel_rfl) (by kernel_rfl) (by kernel_rfl) (by rfl) ?_ hS rfl ?_
  rotate_left
  · intro w' hw
    go_simp
    try with_reducible rfl
  simp only [Act.put, List.setIfInBounds_toArray, List.set_cons_zero, List.set_cons_succ]
  refine hs_take (i := 4) (d := some 8) (v := .pointer (some ⟨R, 0, none⟩)) rfl (by kernel_rfl) (by kernel_rfl) (by kernel_rfl) (by rfl) (fun w' hw => pl_one rfl rfl hw.c0 Tryz.underlying122 rfl) hS rfl ?_
  simp only [Act.put, List.setIfInBounds_toArray, List.set_cons_zero, List.set_cons_succ]
  refine hs_call (i := 5) (d := some 9) rfl (by kernel_rfl) (by rfl) (by go_simp; first | done | exact ⟨rfl, rfl⟩ | with_reducible rfl) rfl ?_
  refine (raw_big R rest e 16 w8 st8 hl).mono ?_
  rintro _ w9 ⟨v9, rfl, m9, st9, g9⟩
  have hS : (fun W' => MrAt W' Q R z) w9 := hq8.gb g9
  refine ⟨_, rfl, hS, ?_⟩
  obtain ⟨av, cv, hve, _, _, row9⟩ := m9.rowAt (by unfold maxLen; have hN : (rawS rest e 16).1.length = 16 ∨ (rawS rest e 16).1 = [] := rawS_N rest e 16; rcases hN with h | h <;> (rw [h]; simp))
  rw [hve]
  obtain ⟨wc, hcp, hrc, hwc⟩ := copy_pad (n := 16) (cap := cv) (by decide) (there_gbR th8 g9 hB1' hne1) (range_gbR rz8 g9 hB1' hne1) row9 (rawS_N rest e 16)
  clear hve
  simp only [Act.put, List.setIfInBounds_toArray, List.set_cons_zero, List.set_cons_succ]
  have hSc : (fun W' => MrAt W' Q R z) wc := by rw [hwc]; exact (hq8.gb g9).at (blk_sets (by omega)) (by rw [size_sets]; exact Nat.le_refl _)
  refine hs_run (i := 6) (d := some 10) (v := goInt (rawS rest e 16).1.length) (w' := wc) rfl (by kernel_rfl) (by rfl) (exec_copy rfl rfl rfl hcp) rfl hSc ?_
  simp only [Act.put, List.setIfInBounds_toArray, List.set_cons_zero, List.set_cons_succ]
  refine hs_done (by kernel_rfl) ?_
  have g8 : w.grownBy w8 (some R) := gb_below hB8 _
  have g9' := gb_trans g8 g9
  have hlow : Below w.heap.size w9 wc := by rw [hwc]; exact below_sets (by omega) _ _ _ (Below.refl _ _)
  have thA : wc.there w.heap.size 0 16 := by rw [hwc]; exact World.there_setCells (there_gbR thA8 g9 (by omega) (by omega)) _ _ _
  have gc := gb_onR g9' hlow (Nat.le_refl _)
  have sc : St wc R _ _ := st9.belowN hlow hRw
  rw [hpc.out] at hrc
  clear hwc hcp m9 row9 st8 hq8 g9 g8 st9 hlow hS rz8 th8 thA8 hB8 hpc
  go_upto_region 3 with fail
  try simp only [Act.put]
  refine pl_begin ?_
  refine pl_take (d := some 11) (v := .agg pc.toArray) (by rfl) (ex_mid rfl rfl hrc Tryz.underlying55 rfl hip) rfl ?_
  simp only [Act.put, List.setIfInBounds_toArray, List.set_cons_zero, List.set_cons_succ]
  refine pl_store (w' := wc.setCells w.heap.size 0 pc) (by rfl) (ex_put (cs := pc.toArray) rfl rfl rfl (by simpa [hpl] using thA) (by simpa using hip) (all_one hp1)) rfl ?_
  refine pl_nil ?_
  have hrs := run_loadVar_mid (P := Tryz.prog) (wc.setCells w.heap.size 0 pc) w.heap.size 0 55 pc _ (World.rangeAt_setCells_same wc w.heap.size 0 pc (by rw [hpl]; exact thA)) Tryz.underlying55 rfl hip
  have gf := gb_onR gc (below_sets (B := w.heap.size) (b := w.heap.size) (Nat.le_refl _) pc 0 _ (Below.refl _ wc)) (Nat.le_refl _)
  have sf : St (wc.setCells w.heap.size 0 pc) R _ _ := sc.belowN (n := w.heap.size) (below_sets (Nat.le_refl _) pc 0 _ (Below.refl _ wc)) hRw
  clear sc gc
  go_wp2_with fail
  refine bodyPost_ret (v := .agg pc.toArray) ?_ rfl ?_
  · simp [results, Tryz.results123, Act.put, asAddr, hrs]
  · exact ⟨rfl, sf, gf⟩
set_option maxRecDepth 100000 in
set_option maxHeartbeats 1000000 in
theorem rdigest_any (Q R : Nat) (z : Bool) (rest : List Int) (e : Int) (w : World) (h : St w R rest e) (hq : MrAt w Q R z) (hl : rest.length ≤ 40000) : Calls Tryz.prog 85 #[.pointer (some ⟨Q, 0, none⟩)] w fun en w' => en = .returned (.agg (v8 (padN 32 (rawS rest e 32).1)).toArray) ∧ St w' R (rawS rest e 32).2.1 (rawS rest e 32).2.2 ∧ w.grownBy w' (some R) := by
  obtain ⟨zc, hzc, hzr⟩ : ∃ zc : List Value, Hid (zc = v8 (List.replicate 32 (0 : Int))) ∧ ∀ w' : World, (zeroValue 26).run Tryz.prog w' = .ok (.agg zc.toArray) w' := ⟨_, hide rfl, fun w => by kernel_rfl⟩
  have hRw := h.1.1
  have hQw := hq.lt
  obtain ⟨hB1, hr1, hs1⟩ := boxed_new w zc 26
  have ht1 := there_newN w zc.toArray 26 (n := 32) (by rw [hzc.out]; simp)
  have hip : (Tryz.prog.info? 26).map (·.size) = some (v8 (padN 32 (rawS rest e 32).1)).length := by rw [v8_length, padN_len]; kernel_rfl
  have hp1 := v8_one (padN 32 (rawS rest e 32).1)
  have hpl : (v8 (padN 32 (rawS rest e 32).1)).length = 32 := by rw [v8_length, padN_len]
  obtain ⟨pc, hpc⟩ : ∃ p, Hid (v8 (padN 32 (rawS rest e 32).1) = p) := ⟨_, hide rfl⟩
  rw [hpc.out] at hip hp1 hpl ⊢
  go_enter Tryz.func85, Tryz.ntmps85
  go_upto_region 0 with fail
  try simp only [Act.put]
  refine pl_begin ?_
  refine pl_run (d := some 2) (v := .pointer (some ⟨w.heap.size, 0, none⟩)) (w' := w.alloc (.cells zc.toArray 26)) (by rfl) (ex_alloc rfl (hzr _)) rfl ?_
  simp only [Act.put, List.setIfInBounds_toArray, List.set_cons_zero, List.set_cons_succ]
  refine pl_nil ?_
  obtain ⟨W1, hW1⟩ : ∃ W, w.alloc (.cells zc.toArray 26) = W := ⟨_, rfl⟩
  rw [hW1] at hB1 hr1 hs1 ht1 ⊢
  clear hW1
  obtain ⟨hB2, hr2, hs2⟩ := boxed_new W1 zc 26
  have ht2 := there_newN W1 zc.toArray 26 (n := 32) (by rw [hzc.out]; simp)
  go_upto_region 1 with fail
  try simp only [Act.put]
  refine pl_begin ?_
  refine pl_run (d := some 3) (v := .pointer (some ⟨W1.heap.size, 0, none⟩)) (w' := W1.alloc (.cells zc.toArray 26)) (by rfl) (ex_alloc rfl (hzr _)) rfl ?_
  simp only [Act.put, List.setIfInBounds_toArray, List.set_cons_zero, List.set_cons_succ]
  refine pl_nil ?_
  obtain ⟨W2, hW2⟩ : ∃ W, W1.alloc (.cells zc.toArray 26) = W := ⟨_, rfl⟩
  rw [hW2] at hB2 hr2 hs2 ht2 ⊢
  clear hW2
  rw [hzc.out] at hr2
  have thA0 := there_belowN ht1 hB2 hs1
  have hBW := hB1.trans (hB2.mono hB1.size)
  clear hr1 ht1 hzr hzc
  go_upto_region 2 with fail
  have hB8 : Below w.heap.size w W2.drew := hBW.drew
  have rz8 : W2.drew.rangeAt W1.heap.size 0 _ := (World.rangeAt_drew _ _ _ _).2 hr2
  have th8 : W2.drew.there W1.heap.size 0 32 := ht2
  have thA8 : W2.drew.there w.heap.size 0 32 := thA0
  have hB1' : W1.heap.size < W2.drew.heap.size := hs2
  refine hs_begin (S := (fun W' => MrAt W' Q R z)) 7 rfl (by kernel_rfl) ?_
  obtain ⟨w8, hw8⟩ : ∃ W, W2.drew = W := ⟨_, rfl⟩
  rw [hw8] at hB8 rz8 th8 thA8 hB1' ⊢
  clear hw8 hr2 ht2 thA0 hBW hs2 hB2
  have st8 := h.below hB8
  have hq8 := hq.below hB8
  have hne1 : W1.heap.size ≠ R := by omega
  have hS : (fun W' => MrAt W' Q R z) w8 := hq8
  refine hs_take (i := 0) (d := some 4) (v := ?_) rfl (by kernel_rfl) (by kernel_rfl) (by kernel_rfl) (by rfl) ?_ hS rfl ?_
  rotate_left
  · intro w' hw
    go_simp
    try with_reducible rfl
  simp only [Act.put, List.setIfInBounds_toArray, List.set_cons_zero, List.set_cons_succ]
  refine hs_take (i := 1) (d := some 5) (v := ?_) rfl (by kernel_rfl) (by kernel_rfl) (by kernel_rfl) (by rfl) ?_ hS rfl ?_
  rotate_left
  · intro w' hw
    go_simp
    try with_reducible rfl
  simp only [Act.put, List.setIfInBounds_toArray, List.set_cons_zero, List.set_cons_succ]
  refine hs_take (i := 2) (d := some 6) (v := ?_) rfl (by kernel_rfl) (by kernel_rfl) (by kernel_rfl) (by rfl) ?_ hS rfl ?_
  rotate_left
  · intro w' hw
    go_simp
    try with_reducible rfl
  simp only [Act.put, List.setIfInBounds_toArray, List.set_cons_zero, List.set_cons_succ]
  refine hs_take (i := 3) (d := some 7) (v := ?_) rfl (by kernel_rfl) (by kernel_rfl) (by kernel_rfl) (by rfl) ?_ hS rfl ?_
  rotate_left
  · intro w' hw
    go_simp
    try with_reducible rfl
  simp only [Act.put, List.setIfInBounds_toArray, List.set_cons_zero, List.set_cons_succ]
  refine hs_take (i := 4) (d := some 8) (v := .pointer (some ⟨R, 0, none⟩)) rfl (by kernel_rfl) (by kernel_rfl) (by kernel_rfl) (by rfl) (fun w' hw => pl_one rfl rfl hw.c0 Tryz.underlying122 rfl) hS rfl ?_
  simp only [Act.put, List.setIfInBounds_toArray, List.set_cons_zero, List.set_cons_succ]
  refine hs_call (i := 5) (d := some 9) rfl (by kernel_rfl) (by rfl) (by go_simp; first | done | exact ⟨rfl, rfl⟩ | with_reducible rfl) rfl ?_
  refine (raw_big R rest e 32 w8 st8 hl).mono ?_
  rintro _ w9 ⟨v9, rfl, m9, st9, g9⟩
  have hS : (fun W' => MrAt W' Q R z) w9 := hq8.gb g9
  refine ⟨_, rfl, hS, ?_⟩
  obtain ⟨av, cv, hve, _, _, row9⟩ := m9.rowAt (by unfold maxLen; have hN : (rawS rest e 32).1.length = 32 ∨ (rawS rest e 32).1 = [] := rawS_N rest e 32; rcases hN with h | h <;> (rw [h]; simp))
  rw [hve]
  obtain ⟨wc, hcp, hrc, hwc⟩ := copy_pad (n := 32) (cap := cv) (by decide) (there_gbR th8 g9 hB1' hne1) (range_gbR rz8 g9 hB1' hne1) row9 (rawS_N rest e 32)
  clear hve
  simp only [Act.put, List.setIfInBounds_toArray, List.set_cons_zero, List.set_cons_succ]
  have hSc : (fun W' => MrAt W' Q R z) wc := by rw [hwc]; exact (hq8.gb g9).at (blk_sets (by omega)) (by rw [size_sets]; exact Nat.le_refl _)
  refine hs_run (i := 6) (d := some 10) (v := goInt (rawS rest e 32).1.length) (w' := wc) rfl (by kernel_rfl) (by rfl) (exec_copy rfl rfl rfl hcp) rfl hSc ?_
  simp only [Act.put, List.setIfInBounds_toArray, List.set_cons_zero, List.set_cons_succ]
  refine hs_done (by kernel_rfl) ?_
  have g8 : w.grownBy w8 (some R) := gb_below hB8 _
  have g9' := gb_trans g8 g9
  have hlow : Below w.heap.size w9 wc := by rw [hwc]; exact below_sets (by omega) _ _ _ (Below.refl _ _)
  have thA : wc.there w.heap.size 0 32 := by rw [hwc]; exact World.there_setCells (there_gbR thA8 g9 (by omega) (by omega)) _ _ _
  have gc := gb_onR g9' hlow (Nat.le_refl _)
  have sc : St wc R _ _ := st9.belowN hlow hRw
  rw [hpc.out] at hrc
  clear hwc hcp m9 row9 st8 hq8 g9 g8 st9 hlow hS rz8 th8 thA8 hB8 hpc
  go_upto_region 3 with fail
  try simp only [Act.put]
  refine pl_begin ?_
  refine pl_take (d := some 11) (v := .agg pc.toArray) (by rfl) (ex_mid rfl rfl hrc Tryz.underlying26 rfl hip) rfl ?_
  simp only [Act.put, List.setIfInBounds_toArray, List.set_cons_zero, List.set_cons_succ]
  refine pl_store (w' := wc.setCells w.heap.size 0 pc) (by rfl) (ex_put (cs := pc.toArray) rfl rfl rfl (by simpa [hpl] using thA) (by simpa using hip) (all_one hp1)) rfl ?_
  refine pl_nil ?_
  have hrs := run_loadVar_mid (P := Tryz.prog) (wc.setCells w.heap.size 0 pc) w.heap.size 0 26 pc _ (World.rangeAt_setCells_same wc w.heap.size 0 pc (by rw [hpl]; exact thA)) Tryz.underlying26 rfl hip
  have gf := gb_onR gc (below_sets (B := w.heap.size) (b := w.heap.size) (Nat.le_refl _) pc 0 _ (Below.refl _ wc)) (Nat.le_refl _)
  have sf : St (wc.setCells w.heap.size 0 pc) R _ _ := sc.belowN (n := w.heap.size) (below_sets (Nat.le_refl _) pc 0 _ (Below.refl _ wc)) hRw
  clear sc gc
  go_wp2_with fail
  refine bodyPost_ret (v := .agg pc.toArray) ?_ rfl ?_
  · simp [results, Tryz.results85, Act.put, asAddr, hrs]
  · exact ⟨rfl, sf, gf⟩
end Go.Proofs.YtgjalkbianpibaaGreat
namespace Go.Proofs.YtgjalkbianpibaaGreat
open Go.RowKit
open Sha Tal
set_option maxHeartbeats 800000 in
theorem refRead_any (a : Option Addr) (cap : Nat) (zs : List Int) (w : World) (h : RowAt w a zs) (hl : zs.length ≤ 40000) :
    Calls Tryz.prog 42 #[.slice a zs.length cap] w fun e w' => ∃ X, e = .returned (.pointer (some ⟨X, 0, none⟩)) ∧ w.heap.size ≤ X ∧ RSt w.heap.size w' X zs 0 ∧ Below w.heap.size w w' := by
  obtain ⟨i0, hi, hz0, hz1, hz2⟩ := info_parts info8
  go_enter Tryz.func42, Tryz.ntmps42
  go_wp2_with (at_builtin; refine wpList_append_own_src _ rfl _ _ 59 59 rfl w.heap.size 5 i0 (.int .u8 0) 1 1 Tryz.underlying59 hi hz0 hz1 hz2 rfl _ 0 [] rfl (World.ownsRow_made w #[] 0 (Nat.le_refl _) (by simp) (by simp)) (.slice a zs.length cap) zs.length (zs.map (Value.int .u8)) rfl ((h.below ((Below.refl _ _).alloc (Nat.le_refl _) _)).src cap) ?c1 ?c2 ?c3 ?_)
  case c1 => unfold maxLen; omega
  case c2 => omega
  case c3 => simp
  intro v' w1 hown hgrow
  have hb : Below w.heap.size w w1 := ((Below.refl _ _).alloc (Nat.le_refl _) _).grown hgrow (by simp) (fun k hk => by simp [Value.ownBlock] at hk; omega)
  have hmine : Mine w1 w.heap.size v' zs := ⟨by simpa using hown, h.2.1⟩
  clear hown hgrow
  obtain ⟨a', cap', rfl, hc1, hc2, hr⟩ := hmine.rowAt (by unfold maxLen; omega)
  have hblk : ∀ x, a' = some x → w.heap.size ≤ x.block ∧ x.block < w1.heap.size := fun x hx => hmine.1.lt x.block (by simp [hx, Value.ownBlock])
  have hb2 : Below w1.heap.size w1 (w1.alloc (.cells #[.slice a' zs.length cap', .int .i64 0, .int .i64 0] 88)) := (Below.refl _ _).alloc (Nat.le_refl _) _
  have hSt : RSt w.heap.size (w1.alloc (.cells #[.slice a' zs.length cap', .int .i64 0, .int .i64 0] 88)) w1.heap.size zs 0 := by
    have cs : ∀ j, (w1.alloc (.cells #[.slice a' zs.length cap', .int .i64 0, .int .i64 0] 88)).cell? ⟨w1.heap.size, j, none⟩ = (#[.slice a' zs.length cap', .int .i64 0, .int .i64 0] : Array Value)[j]? := fun j => World.cell?_alloc_at _ _ _ _ rfl
    have fs : ∀ j, (w1.alloc (.cells #[.slice a' zs.length cap', .int .i64 0, .int .i64 0] 88)).frozen? ⟨w1.heap.size, j, none⟩ = false := fun j => World.frozen?_alloc_at _ _ _ _ rfl
    exact ⟨zs, 0, ⟨by simp, ⟨a', cap', cs 0, hc1, hc2, hr.below hb2, hblk⟩, cs 1, cs 2, fs 0, fs 1, fs 2, Nat.zero_le _, hl⟩, fun _ => rfl⟩
  go_wp2_with fail
  go_ret
  exact ⟨_, rfl, hb.size, hSt, hb.trans (hb2.mono hb.size)⟩
end Go.Proofs.YtgjalkbianpibaaGreat
namespace Go.Proofs.YtgjalkbianpibaaGreat
open Go Go.RowKit
section
variable {P : Program} {ops : Array Oper} {Q : Exit → Act → World → Prop} {md : Region.Mode}

/-- whatever comes up from here on; w0: the world behind the last call -/
def Held (P : Program) (ops : Array Oper) (Q : Exit → Act → World → Prop) (w0 : World) (fuel : Nat) (listed : Array Bool) (a : Act) (w : World) : Prop :=
  wpAnyH P .any ops (NoPanic Q) (fun w' => Below w0.heap.size w0 w') fuel listed a w

theorem held_begin {id : Nat} {a : Act} {w : World} (n : Nat) (hn : ops.size = n) (hm : P.follows .mixedOrders = true) (h : Held P ops Q w.drew n (Array.replicate n false) a w.drew) : (Code.region id ops true).wp P Q a w := by
  subst hn
  exact wp_region_noPanic (wp_region_held hm h)
theorem held_take {i : Nat} {oi : Oper} {d : Option Nat} {v : Value} {fuel : Nat} {listed : Array Bool} {a : Act} {w w0 : World} (hi : ops[i]? = some oi)
    (hs : Region.noSelect ops = true) (hf : Region.free .any ops listed i = true) (hr : (Region.ready .any ops listed).contains i = true)
    (hw : Region.wanted oi (yielded ops a.tmps) = true) (hy : ∀ w', Below w0.heap.size w0 w' → (execOp a.eval oi).run P w' = .ok (.value v) w') (hS : Below w0.heap.size w0 w) (hdst : oi.dst = d)
    (h : Held P ops Q w0 fuel (listed.setIfInBounds i true) (a.put d v) w) : Held P ops Q w0 (fuel + 1) listed a w := by
  subst hdst
  exact wpAnyH_take hi hs hf hr (fun _ _ _ h => h) (Or.inl ⟨hw, hy⟩) hS h
/-- an operation that comes up alone and makes memory of its own (a builtin, a new variable): the condition stays -/
theorem held_run {i : Nat} {oi : Oper} {d : Option Nat} {v : Value} {fuel : Nat} {listed : Array Bool} {a : Act} {w w' w0 : World} (hi : ops[i]? = some oi)
    (hr : Region.ready .any ops listed = [i]) (hw : Region.wanted oi (yielded ops a.tmps) = true) (hy : (execOp a.eval oi).run P w = .ok (.value v) w') (hdst : oi.dst = d)
    (hS : Below w0.heap.size w0 w') (h : Held P ops Q w0 fuel (listed.setIfInBounds i true) (a.put d v) w') : Held P ops Q w0 (fuel + 1) listed a w := by
  subst hdst
  refine wpAnyH_all hr (by simp) ?_
  intro j hj
  obtain rfl : j = i := by simpa using hj
  unfold wpOp
  simp only [hi, hw, if_true]
  left
  unfold Oper.wp
  rw [hy]
  exact ⟨hS, h⟩
theorem exec_append {o : Oper} {a : Act} {w w' : World} {s x : Operand} {t tx : TypeId} {v xv v' : Value} (ho : o.op = .call { callee := .builtin .append, args := #[s, x], argTypes := #[t, tx] }) (hs : a.eval s = v) (hx : a.eval x = xv)
    (hr : (Builtin.append_ #[t, tx] o.type #[v, xv]).run P w = .ok v' w') : (execOp a.eval o).run P w = .ok (.value v') w' := by
  unfold execOp
  simp only [ho, resolve, invoke, builtin, Sem.run_bind, Sem.run_pure, Result.andThen_ok, List.map_toArray, List.map_cons, List.map_nil, hs, hx, hr]
theorem held_done {fuel : Nat} {listed : Array Bool} {a : Act} {w w0 : World} (hr : Region.ready .any ops listed = []) (h : Q .normal a w) : Held P ops Q w0 fuel listed a w :=
  wpAnyH_done hr (NoPanic.normal h) fuel
end
end Go.Proofs.YtgjalkbianpibaaGreat
namespace Go.Proofs.YtgjalkbianpibaaGreat
open Go.RowKit
open Sha Tal
variable {B : Nat}
set_option maxRecDepth 100000 in
set_option maxHeartbeats 1600000 in
theorem refRaw_good (X : Nat) (zs : List Int) (p : Nat) (w : World) (hR : Rf B w X zs p 0) (m : Nat) (hmc : p + m ≤ zs.length) :
    Calls Tryz.prog 129 #[.pointer (some ⟨X, 0, none⟩), .int .i64 (m : Int)] w fun en w' => ∃ v, en = .returned v ∧ Mine w' w.heap.size v ((zs.drop p).take m) ∧ RSt B w' X (zs.drop (p + m)) 0 ∧ w.grownBy w' (some X) := by
  obtain ⟨i0, hi, hz0, hz1, hz2⟩ := info_parts info8
  have hl5 := hR.2.2.2.2.2.2.2.2
  have hpl := hR.2.2.2.2.2.2.2.1
  have h2 := hR.2.2.2.1
  have f1 := hR.2.2.2.2.2.1
  have h1 := hR.2.2.1
  obtain ⟨a, cap, h0, hc, hm, hrow, hne⟩ := id hR.2.1
  unfold maxLen at hm
  have hfew : ¬ ((zs.length : Int) - p < m) := by omega
  have hn0 : ¬ ((m : Int) < 0) := by omega
  go_enter Tryz.func129, Tryz.ntmps129
  go_wp2_with fail
  go_quiet (fail)
  go_wp2_with fail
  have hwrap : IntKind.i64.wrap (p : Int) = p := by
    have e : (p : Int) % 2 ^ 64 = p := by omega
    simp only [IntKind.wrap, IntKind.bits, IntKind.signed, e]
    rw [if_neg (by simp; omega)]
  have hRf : Rf B ((w.drewN nq).setCell ⟨X, 1, none⟩ (.int .i64 ((p : Int) + m))) X zs (p + m) 0 := by
    have := (hR.drewN nq).set1 (p + m) hmc
    have e : ((p + m : Nat) : Int) = (p : Int) + m := by omega
    rw [e] at this; exact this
  have hgW : w.grownBy ((w.drewN nq).setCell ⟨X, 1, none⟩ (.int .i64 ((p : Int) + m))) (some X) := gb_trans (gbz_drewN w nq _) (gb_set _ X 1 _)
  have HC0 : ((w.drewN nq).setCell ⟨X, 1, none⟩ (.int .i64 ((p : Int) + m))).drew.cell? ⟨X, 0, none⟩ = some (.slice a zs.length cap) := by
    have : (w.drewN nq).cell? ⟨X, 0, none⟩ = some (.slice a zs.length cap) := by simpa using h0
    exact (World.cell?_setCell_other _ _ _ _ (by simp)).trans this
  generalize (w.drewN nq).setCell ⟨X, 1, none⟩ (.int .i64 ((p : Int) + m)) = W at *
  have hW : Below W.heap.size W W.drew := (Below.refl _ _).drew
  have hRd : Rf B W.drew X zs (p + m) 0 := hRf.below hW
  have hrd : RowAt W.drew a zs := (hrow.gb hgW (.inr (suc_ne hne))).below hW
  have hsz : w.heap.size ≤ W.drew.heap.size := hgW.size
  clear h0 h1 h2 f1 hrow
  have hk0 : ∀ w', Below W.drew.heap.size W.drew w' → w'.cell? ⟨X, 0, none⟩ = some (.slice a zs.length cap) := by
    intro w' hw
    have hb := (cell_block (j := 0) (hw.block X hRd.1)).1
    rw [hb]; exact HC0
  have hk1 : ∀ w', Below W.drew.heap.size W.drew w' → w'.cell? ⟨X, 1, none⟩ = some (.int .i64 ((p : Int) + m)) := by
    intro w' hw
    have hb := (cell_block (j := 1) (hw.block X hRd.1)).1
    have := hRd.2.2.1
    have e : ((p + m : Nat) : Int) = (p : Int) + m := by omega
    rw [hb, this, e]
  have hsrc : Src Tryz.prog 1 59 (.slice (cutA a cap p) m (cap - p)) m (((zs.drop p).take m).map (Value.int .u8)) (W.drew.alloc (.cells #[] 5)) := by
    have hr := (((hrd.drop p cap hpl hc).take m).below ((Below.refl _ _).alloc (Nat.le_refl _) (.cells #[] 5))).src (cap - p)
    have el : ((zs.drop p).take m).length = m := by rw [List.length_take, List.length_drop]; omega
    rw [el] at hr; exact hr
  refine held_begin 18 rfl (by kernel_rfl) ?_
  have hS := Below.refl (W.drew).heap.size W.drew
  refine held_take (i := 1) (d := some 40) (v := ?_) rfl (by kernel_rfl) (by kernel_rfl) (by kernel_rfl) (by rfl) ?_ (by assumption) rfl ?_
  rotate_left
  · intro w' hw
    go_simp
    try with_reducible rfl
  simp only [Act.put, List.setIfInBounds_toArray, List.set_cons_zero, List.set_cons_succ]
  refine held_take (i := 2) (d := some 41) (v := ?_) rfl (by kernel_rfl) (by kernel_rfl) (by kernel_rfl) (by rfl) ?_ (by assumption) rfl ?_
  rotate_left
  · intro w' hw
    go_simp
    try with_reducible rfl
  simp only [Act.put, List.setIfInBounds_toArray, List.set_cons_zero, List.set_cons_succ]
  refine held_take (i := 3) (d := some 42) (v := ?_) rfl (by kernel_rfl) (by kernel_rfl) (by kernel_rfl) (by rfl) ?_ (by assumption) rfl ?_
  rotate_left
  · intro w' hw
    go_simp
    try with_reducible rfl
  simp only [Act.put, List.setIfInBounds_toArray, List.set_cons_zero, List.set_cons_succ]
  refine held_take (i := 4) (d := some 43) (v := ?_) rfl (by kernel_rfl) (by kernel_rfl) (by kernel_rfl) (by rfl) ?_ (by assumption) rfl ?_
  rotate_left
  · intro w' hw
    have c0 := hk0 w' hw
    have c1 := hk1 w' hw
    go_simp
    try with_reducible rfl
  simp only [Act.put, List.setIfInBounds_toArray, List.set_cons_zero, List.set_cons_succ]
  refine held_take (i := 5) (d := some 44) (v := ?_) rfl (by kernel_rfl) (by kernel_rfl) (by kernel_rfl) (by rfl) ?_ (by assumption) rfl ?_
  rotate_left
  · intro w' hw
    go_simp
    try with_reducible rfl
  simp only [Act.put, List.setIfInBounds_toArray, List.set_cons_zero, List.set_cons_succ]
  refine held_take (i := 6) (d := some 45) (v := ?_) rfl (by kernel_rfl) (by kernel_rfl) (by kernel_rfl) (by rfl) ?_ (by assumption) rfl ?_
  rotate_left
  · intro w' hw
    go_simp
    try with_reducible rfl
  simp only [Act.put, List.setIfInBounds_toArray, List.set_cons_zero, List.set_cons_succ]
  refine held_take (i := 7) (d := some 46) (v := ?_) rfl (by kernel_rfl) (by kernel_rfl) (by kernel_rfl) (by rfl) ?_ (by assumption) rfl ?_
  rotate_left
  · intro w' hw
    go_simp
    try with_reducible rfl
  simp only [Act.put, List.setIfInBounds_toArray, List.set_cons_zero, List.set_cons_succ]
  refine held_take (i := 8) (d := some 47) (v := ?_) rfl (by kernel_rfl) (by kernel_rfl) (by kernel_rfl) (by rfl) ?_ (by assumption) rfl ?_
  rotate_left
  · intro w' hw
    have c0 := hk0 w' hw
    have c1 := hk1 w' hw
    go_simp
    try with_reducible rfl
  simp only [Act.put, List.setIfInBounds_toArray, List.set_cons_zero, List.set_cons_succ]
  refine held_take (i := 9) (d := some 48) (v := ?_) rfl (by kernel_rfl) (by kernel_rfl) (by kernel_rfl) (by rfl) ?_ (by assumption) rfl ?_
  rotate_left
  · intro w' hw
    go_simp
    try with_reducible rfl
  simp only [Act.put, List.setIfInBounds_toArray, List.set_cons_zero, List.set_cons_succ]
  refine held_take (i := 10) (d := some 49) (v := .int .i64 (p : Int)) rfl (by kernel_rfl) (by kernel_rfl) (by kernel_rfl) (by rfl) ?_ (by assumption) rfl ?_
  · intro w' hw
    go_simp
  simp only [Act.put, List.setIfInBounds_toArray, List.set_cons_zero, List.set_cons_succ]
  refine held_take (i := 11) (d := some 50) (v := ?_) rfl (by kernel_rfl) (by kernel_rfl) (by kernel_rfl) (by rfl) ?_ (by assumption) rfl ?_
  rotate_left
  · intro w' hw
    go_simp
    try with_reducible rfl
  simp only [Act.put, List.setIfInBounds_toArray, List.set_cons_zero, List.set_cons_succ]
  refine held_take (i := 12) (d := some 51) (v := ?_) rfl (by kernel_rfl) (by kernel_rfl) (by kernel_rfl) (by rfl) ?_ (by assumption) rfl ?_
  rotate_left
  · intro w' hw
    go_simp
    try with_reducible rfl
  simp only [Act.put, List.setIfInBounds_toArray, List.set_cons_zero, List.set_cons_succ]
  refine held_take (i := 13) (d := some 52) (v := ?_) rfl (by kernel_rfl) (by kernel_rfl) (by kernel_rfl) (by rfl) ?_ (by assumption) rfl ?_
  rotate_left
  · intro w' hw
    go_simp
    try with_reducible rfl
  simp only [Act.put, List.setIfInBounds_toArray, List.set_cons_zero, List.set_cons_succ]
  refine held_take (i := 14) (d := some 53) (v := ?_) rfl (by kernel_rfl) (by kernel_rfl) (by kernel_rfl) (by rfl) ?_ (by assumption) rfl ?_
  rotate_left
  · intro w' hw
    have c0 := hk0 w' hw
    have c1 := hk1 w' hw
    go_simp
    try with_reducible rfl
  simp only [Act.put, List.setIfInBounds_toArray, List.set_cons_zero, List.set_cons_succ]
  refine held_take (i := 15) (d := some 54) (v := .slice (cutA a cap p) m (cap - p)) rfl (by kernel_rfl) (by kernel_rfl) (by kernel_rfl) (by rfl) ?_ (by assumption) rfl ?_
  · intro w' hw
    go_simp
    rw [if_pos (by omega), if_pos (by omega)]
    have e1 : ((p : Int) + m).toNat - p = m := by omega
    rw [e1]
    simp only [cutA]
  simp only [Act.put, List.setIfInBounds_toArray, List.set_cons_zero, List.set_cons_succ]
  refine held_run (i := 0) (d := some 39) (v := .slice (some ⟨W.drew.heap.size, 0, none⟩) 0 0) (w' := W.drew.alloc (.cells #[] 5)) rfl (by kernel_rfl) (by rfl) (by go_simp; try with_reducible rfl) rfl ?_ ?_
  · exact (Below.refl _ _).alloc (Nat.le_refl _) _
  simp only [Act.put, List.setIfInBounds_toArray, List.set_cons_zero, List.set_cons_succ]
  obtain ⟨v', w', hrun, hown, hgrow⟩ := run_append_own_src (P := Tryz.prog) (W.drew.alloc (.cells #[] 5)) W.drew.heap.size 59 59 59 5 i0 (.int .u8 0) 1 1 Tryz.underlying59 hi hz0 hz1 hz2 rfl (.slice (some ⟨W.drew.heap.size, 0, none⟩) 0 0) 0 [] (World.ownsRow_made W.drew #[] 0 (Nat.le_refl _) (by simp) (by simp)) (.slice (cutA a cap p) m (cap - p)) m (((zs.drop p).take m).map (Value.int .u8)) hsrc (by unfold maxLen; omega) (by omega) (by simp)
  have hb1 : Below W.drew.heap.size W.drew w' := ((Below.refl _ _).alloc (Nat.le_refl _) _).grown hgrow (by simp) (fun k hk => by simp [Value.ownBlock] at hk; have : W.drew.heap.size = W.heap.size := rfl; omega)
  refine held_run (i := 16) (d := some 55) (v := v') (w' := w') rfl (by kernel_rfl) (by rfl) (exec_append rfl rfl rfl hrun) rfl hb1 ?_
  simp only [Act.put, List.setIfInBounds_toArray, List.set_cons_zero, List.set_cons_succ]
  refine held_take (i := 17) (d := some 4) (v := ?_) rfl (by kernel_rfl) (by kernel_rfl) (by kernel_rfl) (by rfl) ?_ (by assumption) rfl ?_
  rotate_left
  · intro w' hw
    go_simp
    try with_reducible rfl
  simp only [Act.put, List.setIfInBounds_toArray, List.set_cons_zero, List.set_cons_succ]
  refine held_done (by kernel_rfl) ?_
  go_wp2_with fail
  go_ret
  have el : ((zs.drop p).take m).length = m := by rw [List.length_take, List.length_drop]; omega
  have hM : Mine w' W.drew.heap.size v' ((zs.drop p).take m) := Mine.mk' _ hown (by rw [el]; omega) (by simp) (fun z hz => hrd.2.1 z (List.mem_of_mem_drop (List.mem_of_mem_take hz)))
  exact ⟨_, rfl, hM.mono' hsz, ⟨zs, p + m, hRd.below hb1, fun _ => rfl⟩, gb_trans hgW (gb_below (hW.trans hb1) _)⟩
set_option maxRecDepth 100000 in
set_option maxHeartbeats 1600000 in
theorem refRaw_any (X : Nat) (rest : List Int) (e n : Int) (w : World) (h : RSt B w X rest e) :
    Calls Tryz.prog 129 #[.pointer (some ⟨X, 0, none⟩), .int .i64 n] w fun en w' => ∃ v, en = .returned v ∧ Mine w' w.heap.size v (rawS rest e n).1 ∧ RSt B w' X (rawS rest e n).2.1 (rawS rest e n).2.2 ∧ w.grownBy w' (some X) := by
  obtain ⟨zs, p, hR, hd⟩ := h
  have hl5 := hR.2.2.2.2.2.2.2.2
  have hpl := hR.2.2.2.2.2.2.2.1
  by_cases he : e = 0
  · subst he
    have hd := hd rfl
    subst hd
    by_cases hn : n < 0
    · have HS : Hid (rawS (zs.drop p) 0 n = ([], zs.drop p, 2)) := by show _ = _; unfold rawS; rw [if_pos rfl, if_pos hn]
      have h2 := hR.2.2.2.1
      have f2 := hR.2.2.2.2.2.2.1
      go_enter Tryz.func129, Tryz.ntmps129
      go_wp2_with fail
      go_ret
      rw [HS.out]
      exact ⟨_, rfl, Mine.nil _ _, ⟨zs, p, hR.set2 2, fun h => by cases h⟩, gb_set _ X 2 _⟩
    · by_cases hf : (zs.length : Int) - p < n
      · have HS : Hid (rawS (zs.drop p) 0 n = ([], zs.drop p, 10)) := by show _ = _; unfold rawS; rw [if_pos rfl, if_neg hn, if_pos (by rw [List.length_drop]; omega)]
        have h2 := hR.2.2.2.1
        have h1 := hR.2.2.1
        have f2 := hR.2.2.2.2.2.2.1
        obtain ⟨a, cap, h0, hc, hm, hr⟩ := hR.rest
        go_enter Tryz.func129, Tryz.ntmps129
        go_wp2_with fail
        go_quiet (fail)
        go_wp2_with fail
        go_ret
        rw [HS.out]
        exact ⟨_, rfl, Mine.nil _ _, ⟨zs, p, (hR.drewN nq).set2 10, fun h => by cases h⟩, gb_trans (gbz_drewN w nq _) (gb_set _ X 2 _)⟩
      · obtain ⟨m, rfl⟩ := Int.eq_ofNat_of_zero_le (Int.not_lt.1 hn)
        have e1 : rawS (zs.drop p) 0 (m : Int) = ((zs.drop p).take m, zs.drop (p + m), 0) := by
          unfold rawS; rw [if_pos rfl, if_neg hn, if_neg (by rw [List.length_drop]; omega), Int.toNat_natCast, List.drop_drop]
        rw [e1]
        exact refRaw_good X zs p w hR m (by omega)
  · have HS : Hid (rawS rest e n = ([], rest, e)) := by show _ = _; unfold rawS; rw [if_neg he]
    have he' : (e == 0) = false := by simpa using he
    have h2 := hR.2.2.2.1
    go_enter Tryz.func129, Tryz.ntmps129
    go_wp2_with fail
    go_ret
    rw [HS.out]
    exact ⟨_, rfl, Mine.nil _ _, ⟨zs, p, hR, fun h => absurd h he⟩, gb_refl _ _⟩
end Go.Proofs.YtgjalkbianpibaaGreat
namespace Go.Proofs.YtgjalkbianpibaaGreat
open Go.RowKit
open Sha Tal
theorem RdE.gb {w w' : World} {R : Nat} {e : Int} {r : Option Nat} (h : RdE w R e) (hg : w.grownBy w' r) (hr : some R ≠ r) : RdE w' R e :=
  h.below (hg.block R h.1 hr) hg.size
/-- a reader stays where a block beyond it turns -/
theorem St.gb {w w' : World} {R g : Nat} {rest : List Int} {e : Int} (h : St w R rest e) (hg : w.grownBy w' (some g)) (hr : R < g) : St w' R rest e := by
  refine ⟨h.1.gb hg (by intro q; injection q with q; omega), fun he => ?_⟩
  obtain ⟨a, cap, h0, hc, hm, hrow, hlt⟩ := h.2 he
  refine ⟨a, cap, (cell_block (hg.block R h.1.1 (by intro q; injection q with q; omega))).1.trans h0, hc, hm, hrow.gb hg (.inr (fun x hx => by have := hlt x hx; omega)), hlt⟩
/-- the document's reader stays where a block turns that is not its own nor its bytes' -/
theorem RSt.gb {B : Nat} {w w' : World} {X g : Nat} {rest : List Int} {e : Int} (h : RSt B w X rest e) (hg : w.grownBy w' (some g)) (hr : g < B ∧ g ≠ X ∨ X < g) : RSt B w' X rest e := by
  obtain ⟨zs, p, ⟨hX, ⟨a, cap, h0, hc, hm, hrow, hlt⟩, h1, h2, f0, f1, f2, hp, hl⟩, hd⟩ := h
  have hne : some X ≠ some g := by intro q; injection q with q; omega
  have hk := fun j => @cell_block w w' X j (hg.block X hX hne)
  exact ⟨zs, p, ⟨Nat.lt_of_lt_of_le hX hg.size, ⟨a, cap, (hk 0).1.trans h0, hc, hm, hrow.gb hg (.inr (fun x hx => by have := hlt x hx; omega)), hlt⟩, (hk 1).1.trans h1, (hk 2).1.trans h2, (hk 0).2.trans f0, (hk 1).2.trans f1, (hk 2).2.trans f2, hp, hl⟩, hd⟩
/-- all blocks of w but R and X lie in W as they lay -/
structure Kept (w : World) (R X : Nat) (W : World) : Prop where
  os : W.os = w.os
  tape : W.tape = w.tape
  output : W.output = w.output
  size : w.heap.size ≤ W.heap.size
  block : ∀ k, k < w.heap.size → k ≠ R → k ≠ X → W.heap[k]? = w.heap[k]?
theorem Kept.refl (w : World) (R X : Nat) : Kept w R X w := ⟨rfl, rfl, rfl, Nat.le_refl _, fun _ _ _ _ => rfl⟩
theorem Kept.gb {w W W' : World} {R X g : Nat} (h : Kept w R X W) (hg : W.grownBy W' (some g)) (hr : g = R ∨ g = X ∨ w.heap.size ≤ g) : Kept w R X W' :=
  ⟨hg.os.trans h.os, hg.tape.trans h.tape, hg.output.trans h.output, Nat.le_trans h.size hg.size, fun k hk k1 k2 => (hg.block k (Nat.lt_of_lt_of_le hk h.size) (by intro q; injection q with q; omega)).trans (h.block k hk k1 k2)⟩
theorem Kept.below {w W W' : World} {R X : Nat} (h : Kept w R X W) (hb : Below W.heap.size W W') : Kept w R X W' :=
  ⟨hb.os.trans h.os, hb.tape.trans h.tape, hb.output.trans h.output, Nat.le_trans h.size hb.size, fun k hk k1 k2 => (hb.block k (Nat.lt_of_lt_of_le hk h.size)).trans (h.block k hk k1 k2)⟩
theorem Kept.to {w0 w W : World} {R X : Nat} (h : Kept w R X W) (hb : Below w0.heap.size w0 w) (hR : w0.heap.size ≤ R) (hX : w0.heap.size ≤ X) : Below w0.heap.size w0 W :=
  ⟨h.os.trans hb.os, h.tape.trans hb.tape, h.output.trans hb.output, Nat.le_trans hb.size h.size, fun k hk => (h.block k (Nat.lt_of_lt_of_le hk hb.size) (by omega) (by omega)).trans (hb.block k hk)⟩
/-- both readers, at the same bytes with the same error -/
structure Two (B : Nat) (w : World) (R X : Nat) (W : World) (rest : List Int) (e : Int) : Prop where
  own : St W R rest e
  doc : RSt B W X rest e
  kept : Kept w R X W
theorem Two.below {B : Nat} {w W W' : World} {R X : Nat} {rest : List Int} {e : Int} (h : Two B w R X W rest e) (hb : Below W.heap.size W W') : Two B w R X W' rest e :=
  ⟨h.own.below hb, h.doc.below hb, h.kept.below hb⟩
theorem Two.gb {B : Nat} {w W W' : World} {R X g : Nat} {rest : List Int} {e : Int} (h : Two B w R X W rest e) (hg : W.grownBy W' (some g)) (h1 : R < X) (h2 : X < g) (h3 : w.heap.size ≤ g) : Two B w R X W' rest e :=
  ⟨h.own.gb hg (by omega), h.doc.gb hg (.inr h2), h.kept.gb hg (.inr (.inr h3))⟩
/-- one step of both -/
theorem Two.step {B : Nat} {w W W1 W2 : World} {R X : Nat} {rest rest' : List Int} {e e' : Int} (h : Two B w R X W rest e) (hRX : R < X) (hRB : R < B)
    (s1 : St W1 R rest' e') (g1 : W.grownBy W1 (some R)) (s2 : RSt B W1 X rest e → RSt B W2 X rest' e' ∧ W1.grownBy W2 (some X)) : Two B w R X W2 rest' e' := by
  have hd := h.doc.gb g1 (.inl ⟨hRB, by omega⟩)
  obtain ⟨d2, g2⟩ := s2 hd
  exact ⟨s1.gb g2 hRX, d2, (h.kept.gb g1 (.inl rfl)).gb g2 (.inr (.inl rfl))⟩
theorem numR_nonneg (zs : List Int) (hz : ∀ z ∈ zs, 0 ≤ z ∧ z < 256) : 0 ≤ (numR zs).1 := by
  cases zs with
  | nil => simp [numR]
  | cons k tl =>
    simp only [numR]
    split
    · simp
    · split
      · simp
      · split
        · have hb := val_bound (tl.take k.toNat) (fun z hzz => hz z (List.mem_cons_of_mem _ (List.mem_of_mem_take hzz)))
          simp only [valR]
          split
          · simp
          · exact hb.1
        · simp
theorem St.pos {w : World} {R : Nat} {rest : List Int} {e : Int} (h : St w R rest e) : 0 ≤ (numS rest e 9223372036854775807).1 := by
  unfold numS
  by_cases he : e = 0
  · rw [if_pos he]
    obtain ⟨a, cap, h0, hc, hm, hrow, hlt⟩ := h.2 he
    have := numR_nonneg rest hrow.2.1
    split
    · split
      · simp
      · exact this
    · simp
  · rw [if_neg he]; simp
end Go.Proofs.YtgjalkbianpibaaGreat
namespace Go.Proofs.YtgjalkbianpibaaGreat
open Go.RowKit
open Sha Tal
set_option linter.unusedVariables false
set_option linter.unusedSimpArgs false
theorem build_fill {P : Program} {t : TypeId} {zs : List Value} {pl : Array (Nat × Nat)} {w : World} (hz : (zeroValue t).run P w = .ok (.agg zs.toArray) w) (hu : P.underlying t = some (.struct (P.fieldsOf t)))
    (hp : (((P.fieldsOf t).mapM fun f => do pure (f.offset, ← sizeOf f.type) : Sem (Array (Nat × Nat)))).run P w = .ok pl w) (parts : Array (Nat × Value)) (cs : List Value) (h : Instr.fill (pl[·]?) zs.toArray parts.toList = some cs.toArray) : (Instr.build t parts).run P w = .ok (.agg cs.toArray) w := by
  unfold Instr.build
  simp only [Sem.run_bind, hz, Result.andThen_ok, run_underlying hu]
  rw [hp]
  simp only [Result.andThen_ok, Value.cells]
  rw [h]
  rfl
theorem fill_two {pl : Array (Nat × Nat)} {n m : Nat} {z1 z2 c1 c2 : List Value} {v1 v2 : Value} (h0 : pl[0]? = some (0, n)) (h1 : pl[1]? = some (n, m)) (l1 : z1.length = n) (l2 : z2.length = m) (k1 : c1.length = n) (k2 : c2.length = m) (e1 : v1.cells = c1.toArray) (e2 : v2.cells = c2.toArray) :
    Instr.fill (pl[·]?) (z1 ++ z2).toArray [(0, v1), (1, v2)] = some (c1 ++ c2).toArray := by
  have s1 : z1 ++ z2 = [] ++ (z1 ++ z2) := rfl
  rw [s1, fill_step (off := 0) (n := n) (vs := c1) h0 l1 rfl e1 k1]
  have s2 : [] ++ (c1 ++ z2) = c1 ++ (z2 ++ []) := by simp
  rw [s2, fill_step (off := n) (n := m) (vs := c2) h1 l2 k1 e2 k2]
  simp [Instr.fill]
set_option maxRecDepth 100000 in
theorem zeroSgE (w : World) : (zeroValue 78).run Tryz.prog w = .ok (.agg ([Value.int .i64 0] ++ v8 (List.replicate 16 0)).toArray) w := by kernel_rfl
set_option maxRecDepth 100000 in
theorem build_sign (n : Int) (t : List Value) (ht : t.length = 16) (w : World) : (Instr.build 78 #[(0, .int .i64 n), (1, .agg t.toArray)]).run Tryz.prog w = .ok (.agg (.int .i64 n :: t).toArray) w :=
  build_fill (zs := [Value.int .i64 0] ++ v8 (List.replicate 16 0)) (pl := #[(0, 1), (1, 16)]) (zeroSgE w) (by kernel_rfl) (by kernel_rfl) _ _ (fill_two (c1 := [.int .i64 n]) rfl rfl rfl rfl rfl ht rfl rfl)
theorem ex_build {P : Program} {o : Oper} {a : Act} {w : World} {t : TypeId} {parts : List (Nat × Operand)} {vs : List (Nat × Value)} {v : Value} (ho : o.op = .build t parts.toArray) (hv : (parts.map fun (x : Nat × Operand) => (x.1, a.eval x.2)) = vs)
    (hr : (Instr.build t vs.toArray).run P w = .ok v w) : (execOp a.eval o).run P w = .ok (.value v) w := by
  subst hv
  have e : Array.map (fun (x : Nat × Operand) => (x.1, a.eval x.2)) parts.toArray = (parts.map fun (x : Nat × Operand) => (x.1, a.eval x.2)).toArray := by simp
  unfold execOp
  simp only [ho]
  rw [show (Instr.build t (Array.map (fun x => match x with | (i, x) => (i, a.eval x)) parts.toArray)) = Instr.build t (parts.map fun (x : Nat × Operand) => (x.1, a.eval x.2)).toArray from congrArg _ e]
  simp only [Sem.run_bind, hr, Result.andThen_ok, Sem.run_pure]
theorem zeroEvE (w : World) : (zeroValue 57).run Tryz.prog w = .ok (.agg ([Value.int .i64 0] ++ ([Value.string ⟨#[]⟩] ++ v8 (List.replicate 16 0))).toArray) w := by kernel_rfl
theorem fill_three {pl : Array (Nat × Nat)} {n m k : Nat} {z1 z2 z3 c1 c2 c3 : List Value} {v1 v2 v3 : Value} (h0 : pl[0]? = some (0, n)) (h1 : pl[1]? = some (n, m)) (h2 : pl[2]? = some (n + m, k)) (l1 : z1.length = n) (l2 : z2.length = m) (l3 : z3.length = k) (k1 : c1.length = n) (k2 : c2.length = m) (k3 : c3.length = k) (e1 : v1.cells = c1.toArray) (e2 : v2.cells = c2.toArray) (e3 : v3.cells = c3.toArray) :
    Instr.fill (pl[·]?) (z1 ++ (z2 ++ z3)).toArray [(0, v1), (1, v2), (2, v3)] = some (c1 ++ (c2 ++ c3)).toArray := by
  have s1 : z1 ++ (z2 ++ z3) = [] ++ (z1 ++ (z2 ++ z3)) := rfl
  rw [s1, fill_step (off := 0) (n := n) (vs := c1) h0 l1 rfl e1 k1]
  have s2 : [] ++ (c1 ++ (z2 ++ z3)) = c1 ++ (z2 ++ z3) := by simp
  rw [s2, fill_step (off := n) (n := m) (vs := c2) h1 l2 k1 e2 k2]
  have s3 : c1 ++ (c2 ++ z3) = (c1 ++ c2) ++ (z3 ++ []) := by simp
  rw [s3, fill_step (off := n + m) (n := k) (vs := c3) h2 l3 (by simp [k1, k2]) e3 k3]
  simp [Instr.fill]
set_option maxRecDepth 100000 in
theorem build_env (n : Int) (b : ByteArray) (t : List Value) (ht : t.length = 16) (w : World) : (Instr.build 57 #[(0, .int .i64 n), (1, .string b), (2, .agg t.toArray)]).run Tryz.prog w = .ok (.agg (.int .i64 n :: .string b :: t).toArray) w :=
  build_fill (zs := [Value.int .i64 0] ++ ([Value.string ⟨#[]⟩] ++ v8 (List.replicate 16 0))) (pl := #[(0, 1), (1, 1), (2, 16)]) (zeroEvE w) (by kernel_rfl) (by kernel_rfl) _ _ (fill_three (c1 := [.int .i64 n]) (c2 := [.string b]) rfl rfl rfl rfl rfl rfl rfl rfl ht rfl rfl rfl)
/-- a sign that is read -/
def sgS (rest : List Int) (e : Int) : Sg × List Int × Int :=
  let x1 := numS rest e 64
  let x2 := rawS x1.2.1 x1.2.2 16
  (⟨x1.1, padN 16 x2.1⟩, x2.2.1, x2.2.2)
/-- an envelope that is read -/
def evS (rest : List Int) (e : Int) : Ev × List Int × Int :=
  let x1 := numS rest e 64
  let x2 := textS x1.2.1 x1.2.2 4194304
  let x3 := rawS x2.2.1 x2.2.2 16
  (⟨x1.1, strOf x2.1, padN 16 x3.1⟩, x3.2.1, x3.2.2)
theorem sgS_len (rest : List Int) (e : Int) : (sgS rest e).2.1.length ≤ rest.length := Nat.le_trans (rawS_len _ _ _) (numS_len _ _ _)
theorem evS_len (rest : List Int) (e : Int) : (evS rest e).2.1.length ≤ rest.length := Nat.le_trans (rawS_len _ _ _) (Nat.le_trans (textS_len _ _ _) (numS_len _ _ _))
set_option maxRecDepth 100000 in
set_option maxHeartbeats 1000000 in
theorem rsign_any (Q R : Nat) (z : Bool) (rest : List Int) (e : Int) (w : World) (h : St w R rest e) (hq : MrAt w Q R z) (hl : rest.length ≤ 40000) : Calls Tryz.prog 89 #[.pointer (some ⟨Q, 0, none⟩)] w fun en w' => en = .returned (.agg (sgS rest e).1.cells.toArray) ∧ St w' R (sgS rest e).2.1 (sgS rest e).2.2 ∧ w.grownBy w' (some R) := by
  obtain ⟨zc, hzl, hzr⟩ := zeroSg
  have hRw := h.1.1
  have hQw := hq.lt
  have l1 := numS_len rest e 64
  have cn := fun w0 h0 => num_any R rest e 64 w0 h0
  show Calls Tryz.prog 89 _ w fun en w' => en = .returned (.agg (Value.int .i64 (numS rest e 64).1 :: v8 (padN 16 (rawS (numS rest e 64).2.1 (numS rest e 64).2.2 16).1)).toArray) ∧ St w' R (rawS (numS rest e 64).2.1 (numS rest e 64).2.2 16).2.1 (rawS (numS rest e 64).2.1 (numS rest e 64).2.2 16).2.2 ∧ w.grownBy w' (some R)
  obtain ⟨v1, hv1⟩ : ∃ x, (numS rest e 64).1 = x := ⟨_, rfl⟩
  obtain ⟨r1, hr1'⟩ : ∃ x, (numS rest e 64).2.1 = x := ⟨_, rfl⟩
  obtain ⟨e1, he1⟩ : ∃ x, (numS rest e 64).2.2 = x := ⟨_, rfl⟩
  simp only [hv1, hr1', he1] at l1 cn ⊢
  clear hv1 hr1' he1
  have ct := fun w0 h0 hq0 => rtag_any Q R z r1 e1 w0 h0 hq0 (by omega)
  have htl : (v8 (padN 16 (rawS r1 e1 16).1)).length = 16 := by rw [v8_length, padN_len]
  have hp1 : ∀ v ∈ (Value.int .i64 v1 :: v8 (padN 16 (rawS r1 e1 16).1)), v.oneCell' = true := SgE.one ⟨v1, padN 16 (rawS r1 e1 16).1⟩
  obtain ⟨t, htt⟩ : ∃ t, v8 (padN 16 (rawS r1 e1 16).1) = t := ⟨_, rfl⟩
  obtain ⟨r2, hr2'⟩ : ∃ x, (rawS r1 e1 16).2.1 = x := ⟨_, rfl⟩
  obtain ⟨e2, he2⟩ : ∃ x, (rawS r1 e1 16).2.2 = x := ⟨_, rfl⟩
  simp only [htt, hr2', he2] at ct htl hp1 ⊢
  clear htt hr2' he2
  have hbs := fun w0 => build_sign v1 t htl w0
  have hip : (Tryz.prog.info? 78).map (·.size) = some (Value.int .i64 v1 :: t).length := by simp only [List.length_cons, htl]; exact iszSg
  have hpl : (Value.int .i64 v1 :: t).length = 17 := by simp only [List.length_cons, htl]
  obtain ⟨pc, hpc⟩ : ∃ p, Value.int .i64 v1 :: t = p := ⟨_, rfl⟩
  simp only [hpc] at hbs hip hp1 hpl ⊢
  clear hpc htl
  obtain ⟨hB1, hr1, hs1⟩ := boxed_new w zc 78
  have ht1 := there_newN w zc.toArray 78 (n := 17) (by simp [hzl])
  go_enter Tryz.func89, Tryz.ntmps89
  go_upto_region 0 with fail
  try simp only [Act.put]
  refine pl_begin ?_
  refine pl_run (d := some 2) (v := .pointer (some ⟨w.heap.size, 0, none⟩)) (w' := w.alloc (.cells zc.toArray 78)) (by rfl) (ex_alloc rfl (hzr _)) rfl ?_
  simp only [Act.put, List.setIfInBounds_toArray, List.set_cons_zero, List.set_cons_succ]
  refine pl_nil ?_
  obtain ⟨W1, hW1⟩ : ∃ W, w.alloc (.cells zc.toArray 78) = W := ⟨_, rfl⟩
  rw [hW1] at hB1 hr1 hs1 ht1 ⊢
  clear hW1 hr1 hzr hzl
  have st1 := h.below hB1
  have hq1 := hq.below hB1
  have g1 : w.grownBy W1 (some R) := gb_below hB1 _
  go_upto_region 1 with fail
  try simp only [Act.put]
  refine pl_begin ?_
  refine pl_take (d := some 3) (v := ?_) (by rfl) ?_ rfl ?_
  rotate_left
  · go_simp
    try with_reducible rfl
  simp only [Act.put, List.setIfInBounds_toArray, List.set_cons_zero, List.set_cons_succ]
  refine pl_take (d := some 4) (v := ?_) (by rfl) ?_ rfl ?_
  rotate_left
  · go_simp
    try with_reducible rfl
  simp only [Act.put, List.setIfInBounds_toArray, List.set_cons_zero, List.set_cons_succ]
  refine pl_take (d := some 5) (v := ?_) (by rfl) ?_ rfl ?_
  rotate_left
  · go_simp
    try with_reducible rfl
  simp only [Act.put, List.setIfInBounds_toArray, List.set_cons_zero, List.set_cons_succ]
  refine pl_take (d := some 6) (v := .pointer (some ⟨R, 0, none⟩)) (by rfl) (pl_one rfl rfl hq1.c0 Tryz.underlying122 rfl) rfl ?_
  simp only [Act.put, List.setIfInBounds_toArray, List.set_cons_zero, List.set_cons_succ]
  refine pl_call (d := some 7) (by rfl) (by go_simp; first | done | exact ⟨rfl, rfl⟩ | with_reducible rfl) rfl ?_
  refine (cn W1 st1).mono ?_
  rintro _ w2 ⟨rfl, st2, g2⟩
  refine ⟨_, rfl, ?_⟩
  simp only [Act.put, List.setIfInBounds_toArray, List.set_cons_zero, List.set_cons_succ]
  refine pl_take (d := some 8) (v := ?_) (by rfl) ?_ rfl ?_
  rotate_left
  · go_simp
    try with_reducible rfl
  simp only [Act.put, List.setIfInBounds_toArray, List.set_cons_zero, List.set_cons_succ]
  refine pl_call (d := some 9) (by rfl) (by go_simp; first | done | exact ⟨rfl, rfl⟩ | with_reducible rfl) rfl ?_
  refine (ct w2 st2 (hq1.gb g2)).mono ?_
  rintro _ w3 ⟨rfl, st3, g3⟩
  refine ⟨_, rfl, ?_⟩
  simp only [Act.put, List.setIfInBounds_toArray, List.set_cons_zero, List.set_cons_succ]
  refine pl_take (d := some 10) (v := .agg pc.toArray) (by rfl) (ex_build (parts := [(0, .tmp 7), (1, .tmp 9)]) rfl rfl (hbs _)) rfl ?_
  simp only [Act.put, List.setIfInBounds_toArray, List.set_cons_zero, List.set_cons_succ]
  have g23 := gb_trans g2 g3
  have thA : w3.there w.heap.size 0 17 := there_gbR ht1 g23 hs1 (by omega)
  have gc := gb_trans g1 g23
  have sc := st3
  refine pl_store (w' := w3.setCells w.heap.size 0 pc) (by rfl) (ex_put (cs := pc.toArray) rfl rfl rfl (by simpa [hpl] using thA) (by simpa using hip) (all_one hp1)) rfl ?_
  refine pl_nil ?_
  have gf := gb_onR gc (below_sets (B := w.heap.size) (b := w.heap.size) (Nat.le_refl _) pc 0 _ (Below.refl _ w3)) (Nat.le_refl _)
  have sf : St (w3.setCells w.heap.size 0 pc) R _ _ := sc.belowN (n := w.heap.size) (below_sets (Nat.le_refl _) pc 0 _ (Below.refl _ w3)) hRw
  have hrs := run_loadVar_mid (P := Tryz.prog) (w3.setCells w.heap.size 0 pc) w.heap.size 0 78 pc _ (World.rangeAt_setCells_same w3 w.heap.size 0 pc (by rw [hpl]; exact thA)) Tryz.underlying78 rfl hip
  clear sc gc
  go_wp2_with fail
  refine bodyPost_ret (v := .agg pc.toArray) ?_ rfl ?_
  · simp [results, Tryz.results89, Act.put, asAddr, hrs]
  · exact ⟨rfl, sf, gf⟩
set_option maxRecDepth 100000 in
set_option maxHeartbeats 1000000 in
theorem renv_any (Q R : Nat) (z : Bool) (rest : List Int) (e : Int) (w : World) (h : St w R rest e) (hq : MrAt w Q R z) (hl : rest.length ≤ 40000) : Calls Tryz.prog 84 #[.pointer (some ⟨Q, 0, none⟩)] w fun en w' => en = .returned (.agg (evS rest e).1.cells.toArray) ∧ St w' R (evS rest e).2.1 (evS rest e).2.2 ∧ w.grownBy w' (some R) := by
  obtain ⟨zc, hzl, hzr⟩ := zeroEv
  have hRw := h.1.1
  have hQw := hq.lt
  have l1 := numS_len rest e 64
  have cn := fun w0 h0 => num_any R rest e 64 w0 h0
  have l2 := textS_len (numS rest e 64).2.1 (numS rest e 64).2.2 4194304
  have cx := fun w0 h0 => text_any R (numS rest e 64).2.1 (numS rest e 64).2.2 4194304 w0 h0 h0.pos
  show Calls Tryz.prog 84 _ w fun en w' => en = .returned (.agg (Value.int .i64 (numS rest e 64).1 :: .string (strOf (textS (numS rest e 64).2.1 (numS rest e 64).2.2 4194304).1) :: v8 (padN 16 (rawS (textS (numS rest e 64).2.1 (numS rest e 64).2.2 4194304).2.1 (textS (numS rest e 64).2.1 (numS rest e 64).2.2 4194304).2.2 16).1)).toArray) ∧ St w' R (rawS (textS (numS rest e 64).2.1 (numS rest e 64).2.2 4194304).2.1 (textS (numS rest e 64).2.1 (numS rest e 64).2.2 4194304).2.2 16).2.1 (rawS (textS (numS rest e 64).2.1 (numS rest e 64).2.2 4194304).2.1 (textS (numS rest e 64).2.1 (numS rest e 64).2.2 4194304).2.2 16).2.2 ∧ w.grownBy w' (some R)
  obtain ⟨v1, hv1⟩ : ∃ x, (numS rest e 64).1 = x := ⟨_, rfl⟩
  obtain ⟨r1, hr1'⟩ : ∃ x, (numS rest e 64).2.1 = x := ⟨_, rfl⟩
  obtain ⟨e1, he1⟩ : ∃ x, (numS rest e 64).2.2 = x := ⟨_, rfl⟩
  simp only [hv1, hr1', he1] at l1 cn l2 cx ⊢
  clear hv1 hr1' he1
  obtain ⟨v2, hv2⟩ : ∃ x, strOf (textS r1 e1 4194304).1 = x := ⟨_, rfl⟩
  obtain ⟨r2, hr2'⟩ : ∃ x, (textS r1 e1 4194304).2.1 = x := ⟨_, rfl⟩
  obtain ⟨e2, he2⟩ : ∃ x, (textS r1 e1 4194304).2.2 = x := ⟨_, rfl⟩
  simp only [hv2, hr2', he2] at l2 cx ⊢
  clear hv2 hr2' he2
  have ct := fun w0 h0 hq0 => rtag_any Q R z r2 e2 w0 h0 hq0 (by omega)
  have htl : (v8 (padN 16 (rawS r2 e2 16).1)).length = 16 := by rw [v8_length, padN_len]
  have hp1 : ∀ v ∈ (Value.int .i64 v1 :: .string v2 :: v8 (padN 16 (rawS r2 e2 16).1)), v.oneCell' = true := EvE.one ⟨v1, v2, padN 16 (rawS r2 e2 16).1⟩
  obtain ⟨t, htt⟩ : ∃ t, v8 (padN 16 (rawS r2 e2 16).1) = t := ⟨_, rfl⟩
  obtain ⟨r3, hr3'⟩ : ∃ x, (rawS r2 e2 16).2.1 = x := ⟨_, rfl⟩
  obtain ⟨e3, he3⟩ : ∃ x, (rawS r2 e2 16).2.2 = x := ⟨_, rfl⟩
  simp only [htt, hr3', he3] at ct htl hp1 ⊢
  clear htt hr3' he3
  have hbs := fun w0 => build_env v1 v2 t htl w0
  have hip : (Tryz.prog.info? 57).map (·.size) = some (Value.int .i64 v1 :: .string v2 :: t).length := by simp only [List.length_cons, htl]; exact iszEv
  have hpl : (Value.int .i64 v1 :: .string v2 :: t).length = 18 := by simp only [List.length_cons, htl]
  obtain ⟨pc, hpc⟩ : ∃ p, Value.int .i64 v1 :: .string v2 :: t = p := ⟨_, rfl⟩
  simp only [hpc] at hbs hip hp1 hpl ⊢
  clear hpc htl
  obtain ⟨hB1, hr1, hs1⟩ := boxed_new w zc 57
  have ht1 := there_newN w zc.toArray 57 (n := 18) (by simp [hzl])
  go_enter Tryz.func84, Tryz.ntmps84
  go_upto_region 0 with fail
  try simp only [Act.put]
  refine pl_begin ?_
  refine pl_run (d := some 2) (v := .pointer (some ⟨w.heap.size, 0, none⟩)) (w' := w.alloc (.cells zc.toArray 57)) (by rfl) (ex_alloc rfl (hzr _)) rfl ?_
  simp only [Act.put, List.setIfInBounds_toArray, List.set_cons_zero, List.set_cons_succ]
  refine pl_nil ?_
  obtain ⟨W1, hW1⟩ : ∃ W, w.alloc (.cells zc.toArray 57) = W := ⟨_, rfl⟩
  rw [hW1] at hB1 hr1 hs1 ht1 ⊢
  clear hW1 hr1 hzr hzl
  go_upto_region 1 with fail
  have hB8 := hB1.drew
  have ht8 : W1.drew.there w.heap.size 0 18 := ht1
  have hs8 : w.heap.size < W1.drew.heap.size := hs1
  refine hs_begin (S := (fun W' => MrAt W' Q R z)) 14 rfl (by kernel_rfl) ?_
  obtain ⟨w8, hw8⟩ : ∃ W, W1.drew = W := ⟨_, rfl⟩
  rw [hw8] at hB8 ht8 hs8 ⊢
  clear hw8
  have st8 := h.below hB8
  have g8 : w.grownBy w8 (some R) := gb_below hB8 _
  have hS : (fun W' => MrAt W' Q R z) w8 := hq.below hB8
  refine hs_take (i := 0) (d := some 3) (v := ?_) rfl (by kernel_rfl) (by kernel_rfl) (by kernel_rfl) (by rfl) ?_ hS rfl ?_
  rotate_left
  · intro w' hw
    go_simp
    try with_reducible rfl
  simp only [Act.put, List.setIfInBounds_toArray, List.set_cons_zero, List.set_cons_succ]
  refine hs_take (i := 1) (d := some 4) (v := ?_) rfl (by kernel_rfl) (by kernel_rfl) (by kernel_rfl) (by rfl) ?_ hS rfl ?_
  rotate_left
  · intro w' hw
    go_simp
    try with_reducible rfl
  simp only [Act.put, List.setIfInBounds_toArray, List.set_cons_zero, List.set_cons_succ]
  refine hs_take (i := 2) (d := some 5) (v := ?_) rfl (by kernel_rfl) (by kernel_rfl) (by kernel_rfl) (by rfl) ?_ hS rfl ?_
  rotate_left
  · intro w' hw
    go_simp
    try with_reducible rfl
  simp only [Act.put, List.setIfInBounds_toArray, List.set_cons_zero, List.set_cons_succ]
  refine hs_take (i := 3) (d := some 6) (v := .pointer (some ⟨R, 0, none⟩)) rfl (by kernel_rfl) (by kernel_rfl) (by kernel_rfl) (by rfl) (fun w' hw => pl_one rfl rfl hw.c0 Tryz.underlying122 rfl) hS rfl ?_
  simp only [Act.put, List.setIfInBounds_toArray, List.set_cons_zero, List.set_cons_succ]
  refine hs_take (i := 5) (d := some 8) (v := ?_) rfl (by kernel_rfl) (by kernel_rfl) (by kernel_rfl) (by rfl) ?_ hS rfl ?_
  rotate_left
  · intro w' hw
    go_simp
    try with_reducible rfl
  simp only [Act.put, List.setIfInBounds_toArray, List.set_cons_zero, List.set_cons_succ]
  refine hs_take (i := 6) (d := some 9) (v := ?_) rfl (by kernel_rfl) (by kernel_rfl) (by kernel_rfl) (by rfl) ?_ hS rfl ?_
  rotate_left
  · intro w' hw
    go_simp
    try with_reducible rfl
  simp only [Act.put, List.setIfInBounds_toArray, List.set_cons_zero, List.set_cons_succ]
  refine hs_take (i := 7) (d := some 10) (v := ?_) rfl (by kernel_rfl) (by kernel_rfl) (by kernel_rfl) (by rfl) ?_ hS rfl ?_
  rotate_left
  · intro w' hw
    go_simp
    try with_reducible rfl
  simp only [Act.put, List.setIfInBounds_toArray, List.set_cons_zero, List.set_cons_succ]
  refine hs_take (i := 8) (d := some 11) (v := .pointer (some ⟨R, 0, none⟩)) rfl (by kernel_rfl) (by kernel_rfl) (by kernel_rfl) (by rfl) (fun w' hw => pl_one rfl rfl hw.c0 Tryz.underlying122 rfl) hS rfl ?_
  simp only [Act.put, List.setIfInBounds_toArray, List.set_cons_zero, List.set_cons_succ]
  refine hs_take (i := 10) (d := some 13) (v := ?_) rfl (by kernel_rfl) (by kernel_rfl) (by kernel_rfl) (by rfl) ?_ hS rfl ?_
  rotate_left
  · intro w' hw
    go_simp
    try with_reducible rfl
  simp only [Act.put, List.setIfInBounds_toArray, List.set_cons_zero, List.set_cons_succ]
  refine hs_call (i := 4) (d := some 7) rfl (by kernel_rfl) (by rfl) (by go_simp; first | done | exact ⟨rfl, rfl⟩ | with_reducible rfl) rfl ?_
  refine (cn w8 st8).mono ?_
  rintro _ w2 ⟨rfl, st2, g2⟩
  have hS : (fun W' => MrAt W' Q R z) w2 := hS.gb g2
  refine ⟨_, rfl, hS, ?_⟩
  simp only [Act.put, List.setIfInBounds_toArray, List.set_cons_zero, List.set_cons_succ]
  refine hs_call (i := 9) (d := some 12) rfl (by kernel_rfl) (by rfl) (by go_simp; first | done | exact ⟨rfl, rfl⟩ | with_reducible rfl) rfl ?_
  refine (cx w2 st2).mono ?_
  rintro _ w3 ⟨rfl, st3, g3⟩
  have hS : (fun W' => MrAt W' Q R z) w3 := hS.gb g3
  refine ⟨_, rfl, hS, ?_⟩
  simp only [Act.put, List.setIfInBounds_toArray, List.set_cons_zero, List.set_cons_succ]
  refine hs_call (i := 11) (d := some 14) rfl (by kernel_rfl) (by rfl) (by go_simp; first | done | exact ⟨rfl, rfl⟩ | with_reducible rfl) rfl ?_
  refine (ct w3 st3 hS).mono ?_
  rintro _ w4 ⟨rfl, st4, g4⟩
  have hS : (fun W' => MrAt W' Q R z) w4 := hS.gb g4
  refine ⟨_, rfl, hS, ?_⟩
  simp only [Act.put, List.setIfInBounds_toArray, List.set_cons_zero, List.set_cons_succ]
  refine hs_take (i := 12) (d := some 15) (v := .agg pc.toArray) rfl (by kernel_rfl) (by kernel_rfl) (by kernel_rfl) (by rfl) (fun w' hw => ex_build (parts := [(0, .tmp 7), (1, .tmp 12), (2, .tmp 14)]) rfl rfl (hbs _)) hS rfl ?_
  simp only [Act.put, List.setIfInBounds_toArray, List.set_cons_zero, List.set_cons_succ]
  have g24 := gb_trans (gb_trans g2 g3) g4
  have thA : w4.there w.heap.size 0 18 := there_gbR ht8 g24 hs8 (by omega)
  have gc := gb_trans g8 g24
  have sc := st4
  have hSE : (fun W' => MrAt W' Q R z) (w4.setCells w.heap.size 0 pc) := hS.at (blk_sets (by omega)) (by rw [size_sets]; exact Nat.le_refl _)
  refine hs_store (i := 13) (w' := w4.setCells w.heap.size 0 pc) rfl (by kernel_rfl) (by rfl) (ex_put (cs := pc.toArray) rfl rfl rfl (by simpa [hpl] using thA) (by simpa using hip) (all_one hp1)) rfl hSE ?_
  refine hs_done (by kernel_rfl) ?_
  have gf := gb_onR gc (below_sets (B := w.heap.size) (b := w.heap.size) (Nat.le_refl _) pc 0 _ (Below.refl _ w4)) (Nat.le_refl _)
  have sf : St (w4.setCells w.heap.size 0 pc) R _ _ := sc.belowN (n := w.heap.size) (below_sets (Nat.le_refl _) pc 0 _ (Below.refl _ w4)) hRw
  have hrs := run_loadVar_mid (P := Tryz.prog) (w4.setCells w.heap.size 0 pc) w.heap.size 0 57 pc _ (World.rangeAt_setCells_same w4 w.heap.size 0 pc (by rw [hpl]; exact thA)) Tryz.underlying57 rfl hip
  clear sc gc
  go_wp2_with fail
  refine bodyPost_ret (v := .agg pc.toArray) ?_ rfl ?_
  · simp [results, Tryz.results84, Act.put, asAddr, hrs]
  · exact ⟨rfl, sf, gf⟩
end Go.Proofs.YtgjalkbianpibaaGreat
