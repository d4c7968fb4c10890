/- certs and messages without lists against themselves; fieldsMay and Good at messages without lists; Good of a message that is its own bare one; digests' parts: what the contracts of digests are told; Encode; message.Vote, message.Mark; the document's only, at votes and marks; the document's putVote, bytes, Encode, Vote, Mark; A reader: its block, Err, left, take, fail, value.; The place a reader is at: number.; A reader reads a number: Num.; slices.Clone over bytes, and Read.; A reader reads a text: next, Text.; What was read, put again; Left.; The document's reader: number.; The document's reader: Num.; The readers: Raw of the program's; Read of the document's. -/
import Derived.Test.YtahdmajppnffeaaJM2
import Derived.Test.YtahdmajppnffeaaJM1
import Derived.Lib.SlBytesConst
import Derived.WalkLawsBesides
import Derived.SliceStrings
import Derived.BigQuiet
namespace Go.Proofs.Ytahdmajppnffeaa
open Go.RowKit
open Sha Tal
theorem wpList_load_g {P : Program} {ops : Array Oper} {rest : List Oper} {op : Oper} {a : Act} {w : World} {Q : Exit → Act → World → Prop} (hgd : Region.wanted op (yielded ops a.tmps) = true) (ty : TypeId) (x : Operand) (ho : op.op = .load ty x)
    (b o : Nat) (hx : a.eval x = .pointer (some ⟨b, o, none⟩)) (cs : List Value) (d : TypeDesc) (hc : w.rangeAt b o cs)
    (hu : P.underlying ty = some d) (hd : d.isRow = true) (hi : (P.info? ty).map (·.size) = some cs.length)
    (h : wpList P ops Q rest (a.put op.dst (.agg cs.toArray)) w) : wpList P ops Q (op :: rest) a w :=
  wpList_step fun _ hK => by rw [if_pos hgd]; exact wp_load_mid ty x ho b o hx cs d hc hu hd hi (hK _ _ h)
theorem iszC : (Try.prog.info? 35).map (·.size) = some 37 := by kernel_rfl
def cert0 (x : Vt) : List Value := x.cells ++ [.slice none 0 0]
theorem two_boxes (q : List Value) (t : TypeId) (w : World) : ((w.alloc (.cells q.toArray t)).alloc (.cells q.toArray t)).rangeAt w.heap.size 0 q ∧ ((w.alloc (.cells q.toArray t)).alloc (.cells q.toArray t)).rangeAt (w.heap.size + 1) 0 q ∧ Below w.heap.size w ((w.alloc (.cells q.toArray t)).alloc (.cells q.toArray t)) ∧ w.heap.size + 2 ≤ ((w.alloc (.cells q.toArray t)).alloc (.cells q.toArray t)).heap.size := by
  have hB : Below w.heap.size w (w.alloc (.cells q.toArray t)) := (Below.refl _ _).alloc (Nat.le_refl _) _
  have hB2 : Below (w.alloc (.cells q.toArray t)).heap.size (w.alloc (.cells q.toArray t)) ((w.alloc (.cells q.toArray t)).alloc (.cells q.toArray t)) := (Below.refl _ _).alloc (Nat.le_refl _) _
  have h1 := range_new w q.toArray t
  have h2 := range_new (w.alloc (.cells q.toArray t)) q.toArray t
  rw [World.size_alloc] at h2
  exact ⟨range_below (by simpa using h1) hB2 (by simp), by simpa using h2, hB.trans (hB2.mono (by simp)), by simp⟩
set_option maxRecDepth 100000 in
set_option maxHeartbeats 2000000 in
theorem scert0 (x : Vt) (hx : x.ok) (w : World) : Calls Try.prog 53 #[.agg (cert0 x).toArray, .agg (cert0 x).toArray] w fun e w' => e = .returned (.bool true) ∧ Below w.heap.size w w' := by
  obtain ⟨hA, hA', hB, hs⟩ := two_boxes (cert0 x) 35 w
  have r1 := range_left hA
  have r1' := range_left hA'
  have c1 := range_right hA 0 _ rfl
  have c1' := range_right hA' 0 _ rfl
  rw [hx.len] at c1 c1'
  simp only [Nat.zero_add, Nat.add_zero] at c1 c1'
  have ix : (Try.prog.info? 28).map (·.size) = some x.cells.length := by rw [hx.len]; exact iszV
  have hq := eqInV x x hx.dl hx.dl
  rw [vtB_self] at hq
  clear hA hA' hs hx
  generalize cert0 x = q at *
  generalize x.cells = u at *
  go_enter Try.func53, Try.ntmps53
  go_upto_region 1 with fail
  go_name_world w1 hw1
  rw [show (w.alloc (.cells q.toArray 35)).alloc (.cells q.toArray 35) = w1 from hw1] at r1 r1' c1 c1' hB
  clear hw1
  go_wp2_with (first | (refine wpList_load_mid rfl 28 _ rfl _ _ rfl u _ r1 Try.underlying28 rfl ix ?_) | (refine wpList_load_mid rfl 28 _ rfl _ _ rfl u _ r1' Try.underlying28 rfl ix ?_) | (go_at_call 54; refine (eqS0 _).mono ?_; rintro e1 w2 ⟨rfl, hx⟩; obtain rfl := hx.symm; clear hx))
  go_ret
  exact ⟨rfl, hB⟩
set_option maxRecDepth 100000 in
set_option maxHeartbeats 4000000 in
theorem msame0 (k e s : Int) (x : Vt) (d : List Int) (hx : x.ok) (hd : d.length = 32) (hdb : ∀ z ∈ d, 0 ≤ z ∧ z < 256) (w : World) : Calls Try.prog 22 #[.agg (Ms.plain k e s x d).cells.toArray, .agg (Ms.plain k e s x d).cells.toArray] w fun e w' => e = .returned (.bool true) ∧ Below w.heap.size w w' := by
  have hm := Ms.plain_ok k e s hx hd hdb
  obtain ⟨hA, hA', hB, hs⟩ := two_boxes (Ms.plain k e s x d).cells 37 w
  obtain ⟨W, hW⟩ : ∃ W, Hid ((w.alloc (.cells (Ms.plain k e s x d).cells.toArray 37)).alloc (.cells (Ms.plain k e s x d).cells.toArray 37) = W) := ⟨_, hide rfl⟩
  rw [hW.out] at hA hA' hB hs
  have M := hm.at hA
  have M' := hm.at hA'
  have ix : (Try.prog.info? 28).map (·.size) = some x.cells.length := by rw [hx.len]; exact iszV
  have id : (Try.prog.info? 26).map (·.size) = some (v8 d).length := by rw [v8_length, hd]; exact iszD
  have ic : (Try.prog.info? 35).map (·.size) = some (cert0 Vt.zero).length := by rw [show (cert0 Vt.zero).length = 37 from rfl]; exact iszC
  have hq := eqInV x x hx.dl hx.dl
  have hq2 := eqInD d d hd hd
  rw [vtB_self] at hq
  rw [show (d == d) = true by simp] at hq2
  have cC := fun w0 => scert0 Vt.zero Vt.zero_ok w0
  have cK : W.cell? ⟨w.heap.size, 0, none⟩ = some (.int .i64 k) := M.k
  have cE : W.cell? ⟨w.heap.size, 1, none⟩ = some (.int .i64 e) := M.e
  have cL : W.cell? ⟨w.heap.size, 2, none⟩ = some (.int .i64 0) := M.l
  have cV : W.cell? ⟨w.heap.size, 3, none⟩ = some (.int .i64 0) := M.v
  have cS : W.cell? ⟨w.heap.size, 4, none⟩ = some (.int .i64 s) := M.s
  have cQ : W.cell? ⟨w.heap.size, 5, none⟩ = some (.bool false) := M.q
  have cR : W.cell? ⟨w.heap.size, 6, none⟩ = some (.slice none 0 0) := M.rs
  have c1 : W.cell? ⟨w.heap.size, 43, none⟩ = some (.int .i64 0) := M.ce
  have c2 : W.cell? ⟨w.heap.size, 44, none⟩ = some (.int .i64 0) := M.cl
  have c3 : W.cell? ⟨w.heap.size, 45, none⟩ = some (.int .i64 0) := M.cv
  have cH : W.cell? ⟨w.heap.size, 46, none⟩ = some (.slice none 0 0) := M.he
  have cN : W.cell? ⟨w.heap.size, 47, none⟩ = some (.slice none 0 0) := M.ne
  have cT : W.cell? ⟨w.heap.size, 117, none⟩ = some (.string ⟨#[]⟩) := M.st
  have cG : W.cell? ⟨w.heap.size, 118, none⟩ = some (.slice none 0 0) := M.sg
  have rV : W.rangeAt (w.heap.size) 7 x.cells := M.vt
  have rD : W.rangeAt (w.heap.size) 48 (v8 d) := M.d
  have rC : W.rangeAt (w.heap.size) 80 (cert0 Vt.zero) := M.ct
  have cK' : W.cell? ⟨w.heap.size + 1, 0, none⟩ = some (.int .i64 k) := M'.k
  have cE' : W.cell? ⟨w.heap.size + 1, 1, none⟩ = some (.int .i64 e) := M'.e
  have cL' : W.cell? ⟨w.heap.size + 1, 2, none⟩ = some (.int .i64 0) := M'.l
  have cV' : W.cell? ⟨w.heap.size + 1, 3, none⟩ = some (.int .i64 0) := M'.v
  have cS' : W.cell? ⟨w.heap.size + 1, 4, none⟩ = some (.int .i64 s) := M'.s
  have cQ' : W.cell? ⟨w.heap.size + 1, 5, none⟩ = some (.bool false) := M'.q
  have cR' : W.cell? ⟨w.heap.size + 1, 6, none⟩ = some (.slice none 0 0) := M'.rs
  have c1' : W.cell? ⟨w.heap.size + 1, 43, none⟩ = some (.int .i64 0) := M'.ce
  have c2' : W.cell? ⟨w.heap.size + 1, 44, none⟩ = some (.int .i64 0) := M'.cl
  have c3' : W.cell? ⟨w.heap.size + 1, 45, none⟩ = some (.int .i64 0) := M'.cv
  have cH' : W.cell? ⟨w.heap.size + 1, 46, none⟩ = some (.slice none 0 0) := M'.he
  have cN' : W.cell? ⟨w.heap.size + 1, 47, none⟩ = some (.slice none 0 0) := M'.ne
  have cT' : W.cell? ⟨w.heap.size + 1, 117, none⟩ = some (.string ⟨#[]⟩) := M'.st
  have cG' : W.cell? ⟨w.heap.size + 1, 118, none⟩ = some (.slice none 0 0) := M'.sg
  have rV' : W.rangeAt (w.heap.size + 1) 7 x.cells := M'.vt
  have rD' : W.rangeAt (w.heap.size + 1) 48 (v8 d) := M'.d
  have rC' : W.rangeAt (w.heap.size + 1) 80 (cert0 Vt.zero) := M'.ct
  clear hA hA' hm M M' hx hd hdb
  generalize (Ms.plain k e s x d).cells = q at *
  generalize x.cells = u at *
  generalize v8 d = ud at *
  generalize cert0 Vt.zero = uc at *
  go_enter Try.func22, Try.ntmps22
  go_upto_region 1 with fail
  go_name_world w1 hw1
  obtain rfl : W = w1 := hW.out.symm.trans hw1
  clear hw1 hW
  go_upto_region 3 with fail
  try simp only [Act.put]
  refine wp_region_list ?_
  refine wpList_step fun K hK => ?_
  go_simp
  refine hK _ _ ?_
  clear hK K
  refine wpList_load_mid rfl 28 _ rfl _ _ rfl u _ rV Try.underlying28 rfl ix ?_
  refine wpList_step fun K hK => ?_
  go_simp
  refine hK _ _ ?_
  clear hK K
  refine wpList_load_mid rfl 28 _ rfl _ _ rfl u _ rV' Try.underlying28 rfl ix ?_
  refine wpList_step fun K hK => ?_
  go_simp
  try rw [hq]
  try go_simp
  refine hK _ _ ?_
  clear hK K
  refine wpList_step fun K hK => ?_
  go_simp
  refine hK _ _ ?_
  clear hK K
  refine wpList_step fun K hK => ?_
  go_simp
  refine hK _ _ ?_
  clear hK K
  refine wpList_load_g (by rfl) 26 _ rfl _ _ rfl ud _ rD Try.underlying26 rfl id ?_
  refine wpList_step fun K hK => ?_
  go_simp
  refine hK _ _ ?_
  clear hK K
  refine wpList_load_g (by rfl) 26 _ rfl _ _ rfl ud _ rD' Try.underlying26 rfl id ?_
  refine wpList_step fun K hK => ?_
  go_simp
  try rw [hq2]
  try go_simp
  refine hK _ _ ?_
  clear hK K
  refine wpList_step fun K hK => ?_
  go_simp
  refine hK _ _ ?_
  clear hK K
  refine wpList_step fun K hK => ?_
  go_simp
  refine hK _ _ ?_
  clear hK K
  refine wpList_step fun K hK => ?_
  go_simp
  refine hK _ _ ?_
  clear hK K
  refine wpList_step fun K hK => ?_
  go_simp
  refine hK _ _ ?_
  clear hK K
  refine wpList_step fun K hK => ?_
  go_simp
  refine hK _ _ ?_
  clear hK K
  refine wpList_step fun K hK => ?_
  go_simp
  refine hK _ _ ?_
  clear hK K
  refine wpList_step fun K hK => ?_
  go_simp
  refine hK _ _ ?_
  clear hK K
  refine wpList_step fun K hK => ?_
  go_simp
  refine hK _ _ ?_
  clear hK K
  refine wpList_step fun K hK => ?_
  go_simp
  refine hK _ _ ?_
  clear hK K
  go_upto_region 5 with fail
  clear cK cE cL cV cS cK' cE' cL' cV' cS' rV rV' rD rD' cT cT' hq hq2
  go_wp2_with fail
  refine (bsame0 false _).mono ?_
  rintro e2 w2 ⟨rfl, hb2⟩
  have up := fun i v (h : W.cell? ⟨w.heap.size, i, none⟩ = some v) => (hb2.cell (p := ⟨w.heap.size, i, none⟩) (show w.heap.size < W.heap.size by omega)).trans h
  replace c1 := up _ _ c1
  replace c2 := up _ _ c2
  replace c3 := up _ _ c3
  replace cH := up _ _ cH
  replace cN := up _ _ cN
  replace cG := up _ _ cG
  replace rC := range_below rC hb2 (by omega)
  clear up
  have up' := fun i v (h : W.cell? ⟨w.heap.size + 1, i, none⟩ = some v) => (hb2.cell (p := ⟨w.heap.size + 1, i, none⟩) (show w.heap.size + 1 < W.heap.size by omega)).trans h
  replace c1' := up' _ _ c1'
  replace c2' := up' _ _ c2'
  replace c3' := up' _ _ c3'
  replace cH' := up' _ _ cH'
  replace cN' := up' _ _ cN'
  replace cG' := up' _ _ cG'
  replace rC' := range_below rC' hb2 (by omega)
  clear up'
  have hs2 := Nat.le_trans hs hb2.size
  have hB2 := hB.trans (hb2.mono (by omega))
  clear cQ cR cQ' cR' hb2 hs hB
  go_wp2_with fail
  refine (schg0 _).mono ?_
  rintro e3 w3 ⟨rfl, hb3⟩
  have up := fun i v (h : w2.cell? ⟨w.heap.size, i, none⟩ = some v) => (hb3.cell (p := ⟨w.heap.size, i, none⟩) (show w.heap.size < w2.heap.size by omega)).trans h
  replace cN := up _ _ cN
  replace cG := up _ _ cG
  replace rC := range_below rC hb3 (by omega)
  clear up
  have up' := fun i v (h : w2.cell? ⟨w.heap.size + 1, i, none⟩ = some v) => (hb3.cell (p := ⟨w.heap.size + 1, i, none⟩) (show w.heap.size + 1 < w2.heap.size by omega)).trans h
  replace cN' := up' _ _ cN'
  replace cG' := up' _ _ cG'
  replace rC' := range_below rC' hb3 (by omega)
  clear up'
  have hs3 := Nat.le_trans hs2 hb3.size
  have hB3 := hB2.trans (hb3.mono (by omega))
  clear c1 c2 c3 cH c1' c2' c3' cH' hb3 hs2 hB2
  go_wp2_with fail
  refine (eqE0 _).mono ?_
  rintro e4 w4 ⟨rfl, hx⟩
  obtain rfl := hx.symm
  clear hx cN cN'
  go_wp2_with (first | (refine wpList_load_g (by rfl) 35 _ rfl _ _ rfl uc _ rC Try.underlying35 rfl ic ?_) | (refine wpList_load_g (by rfl) 35 _ rfl _ _ rfl uc _ rC' Try.underlying35 rfl ic ?_))
  refine (cC _).mono ?_
  rintro e5 w5 ⟨rfl, hb5⟩
  have up := fun i v (h : w3.cell? ⟨w.heap.size, i, none⟩ = some v) => (hb5.cell (p := ⟨w.heap.size, i, none⟩) (show w.heap.size < w3.heap.size by omega)).trans h
  replace cG := up _ _ cG
  clear up
  have up' := fun i v (h : w3.cell? ⟨w.heap.size + 1, i, none⟩ = some v) => (hb5.cell (p := ⟨w.heap.size + 1, i, none⟩) (show w.heap.size + 1 < w3.heap.size by omega)).trans h
  replace cG' := up' _ _ cG'
  clear up'
  have hB5 := hB3.trans (hb5.mono (by omega))
  clear rC rC' hb5 hs3 hB3 cC
  go_wp2_with fail
  refine (eqS0 _).mono ?_
  rintro e6 w6 ⟨rfl, hx⟩
  obtain rfl := hx.symm
  clear hx cG cG'
  go_wp2_with fail
  go_ret
  exact ⟨rfl, hB5⟩
theorem iszH4 : (Try.prog.info? 31).map (·.size) = some 4 := by kernel_rfl
end Go.Proofs.Ytahdmajppnffeaa
namespace Go.Proofs.Ytahdmajppnffeaa
open Go.RowKit
open Sha Tal
set_option maxRecDepth 100000 in
set_option maxHeartbeats 4000000 in
theorem fmay6 (w : World) : Calls Try.prog 24 #[.agg (Ms.plain 6 2 9 Vt.zero zeros32).cells.toArray] w fun er w' => er = .returned (.bool true) ∧ Below w.heap.size w w' := by
  have hm : (Ms.plain 6 2 9 Vt.zero zeros32).ok := Ms.plain_ok 6 2 9 Vt.zero_ok zeros32_len zeros32_byte
  have hB : Below w.heap.size w (w.alloc (.cells (Ms.plain 6 2 9 Vt.zero zeros32).cells.toArray 37)) := (Below.refl _ _).alloc (Nat.le_refl _) _
  have hs : w.heap.size < (w.alloc (.cells (Ms.plain 6 2 9 Vt.zero zeros32).cells.toArray 37)).heap.size := by simp
  have M := (Ms.plain 6 2 9 Vt.zero zeros32).box hm w
  obtain ⟨W, hW⟩ : ∃ W, Hid (w.alloc (.cells (Ms.plain 6 2 9 Vt.zero zeros32).cells.toArray 37) = W) := ⟨_, hide rfl⟩
  rw [hW.out] at hB hs M
  have cK : W.cell? ⟨w.heap.size, 0, none⟩ = some (.int .i64 6) := M.k
  have cE : W.cell? ⟨w.heap.size, 1, none⟩ = some (.int .i64 2) := M.e
  have cL : W.cell? ⟨w.heap.size, 2, none⟩ = some (.int .i64 0) := M.l
  have cV : W.cell? ⟨w.heap.size, 3, none⟩ = some (.int .i64 0) := M.v
  have cS : W.cell? ⟨w.heap.size, 4, none⟩ = some (.int .i64 9) := M.s
  have cQ : W.cell? ⟨w.heap.size, 5, none⟩ = some (.bool false) := M.q
  have cR : W.cell? ⟨w.heap.size, 6, none⟩ = some (.slice none 0 0) := M.rs
  have c1 : W.cell? ⟨w.heap.size, 43, none⟩ = some (.int .i64 0) := M.ce
  have c2 : W.cell? ⟨w.heap.size, 44, none⟩ = some (.int .i64 0) := M.cl
  have c3 : W.cell? ⟨w.heap.size, 45, none⟩ = some (.int .i64 0) := M.cv
  have cH : W.cell? ⟨w.heap.size, 46, none⟩ = some (.slice none 0 0) := M.he
  have cN : W.cell? ⟨w.heap.size, 47, none⟩ = some (.slice none 0 0) := M.ne
  have cT : W.cell? ⟨w.heap.size, 117, none⟩ = some (.string ⟨#[]⟩) := M.st
  have cG : W.cell? ⟨w.heap.size, 118, none⟩ = some (.slice none 0 0) := M.sg
  have i1 : inB 0 1048576 = true := rfl
  have i2 : inB 0 64 = true := rfl
  have i3 : inB 0 1099511627776 = true := rfl
  have i4 : inB 2 1048576 = true := rfl
  have i5 : inB 9 1099511627776 = true := rfl
  generalize (Ms.plain 6 2 9 Vt.zero zeros32).cells = q at *
  clear hm M
  go_enter Try.func24, Try.ntmps24
  go_upto_region 1 with fail
  go_name_world w1 hw1
  obtain rfl : W = w1 := hW.out.symm.trans hw1
  clear hw1 hW
  go_upto_region 9 with (go_at_call 55; refine (within_any _ _ _).mono ?_; rintro e1 w1 ⟨rfl, hx⟩; obtain rfl := hx.symm; clear hx; (first | rw [i1] | rw [i2] | rw [i3] | rw [i4] | rw [i5]))
  go_wp2_with fail
  refine (batMay0 false _).mono ?_
  rintro e3 w3 ⟨rfl, hb3⟩
  have up := fun i v (h : W.cell? ⟨w.heap.size, i, none⟩ = some v) => (hb3.cell (p := ⟨w.heap.size, i, none⟩) (show w.heap.size < W.heap.size by omega)).trans h
  replace c1 := up _ _ c1
  replace c2 := up _ _ c2
  replace c3 := up _ _ c3
  replace cH := up _ _ cH
  replace cN := up _ _ cN
  replace cT := up _ _ cT
  replace cG := up _ _ cG
  clear up
  have hs3 := Nat.lt_of_lt_of_le hs hb3.size
  have hB3 := hB.trans (hb3.mono (by omega))
  clear cQ cR hb3 hB hs
  go_wp2_with fail
  refine (chgMay0 _).mono ?_
  rintro e4 w4 ⟨rfl, hb4⟩
  have up := fun i v (h : w3.cell? ⟨w.heap.size, i, none⟩ = some v) => (hb4.cell (p := ⟨w.heap.size, i, none⟩) (show w.heap.size < w3.heap.size by omega)).trans h
  replace cN := up _ _ cN
  replace cT := up _ _ cT
  replace cG := up _ _ cG
  clear up
  have hs4 := Nat.lt_of_lt_of_le hs3 hb4.size
  have hB4 := hB3.trans (hb4.mono (by omega))
  clear c1 c2 c3 cH hb4 hB3 hs3
  go_wp2_with fail
  refine (amE0 _ _ (by omega) _).mono ?_
  rintro e5 w5 ⟨rfl, hx⟩
  obtain rfl := hx.symm
  clear hx cN
  go_wp2_with fail
  refine (sigMay0 _).mono ?_
  rintro e6 w6 ⟨rfl, hx⟩
  obtain rfl := hx.symm
  clear hx cT cG
  go_wp2_with fail
  go_ret
  exact ⟨rfl, hB4⟩
end Go.Proofs.Ytahdmajppnffeaa
namespace Go.Proofs.Ytahdmajppnffeaa
open Go.RowKit
open Sha Tal
set_option maxRecDepth 100000 in
set_option maxHeartbeats 4000000 in
theorem good0 (q : List Value) (k : Int) (b : Bool) (w : World) (hq : q.length = 119) (h0 : q[0]? = some (.int .i64 k)) (h1 : 1 ≤ k) (h8 : k ≤ 8)
    (hb : ∀ w, Calls Try.prog 23 #[.agg q.toArray] w (BareOk w q))
    (hsm : ∀ w, Calls Try.prog 22 #[.agg q.toArray, .agg q.toArray] w fun e w' => e = .returned (.bool true) ∧ Below w.heap.size w w')
    (hf : ∀ w, Calls Try.prog 24 #[.agg q.toArray] w fun e w' => e = .returned (.bool b) ∧ Below w.heap.size w w') :
    Calls Try.prog 10 #[.agg q.toArray] w fun e w' => e = .returned (.bool b) ∧ Below w.heap.size w w' := by
  have hB : Below w.heap.size w (w.alloc (.cells q.toArray 37)) := (Below.refl _ _).alloc (Nat.le_refl _) _
  have hs : w.heap.size < (w.alloc (.cells q.toArray 37)).heap.size := by simp
  have hA : (w.alloc (.cells q.toArray 37)).rangeAt w.heap.size 0 q := by simpa using range_new w q.toArray 37
  have c0 := hA 0 _ h0
  simp only [Nat.add_zero] at c0
  have iq : (Try.prog.info? 37).map (·.size) = some q.length := by rw [hq]; exact iszM
  clear hq h0
  go_enter Try.func10, Try.ntmps10
  go_upto_region 2 with fail
  obtain ⟨w8, hw8⟩ : ∃ w8, (w.alloc (.cells q.toArray 37)).drew = w8 := ⟨_, rfl⟩
  have hB8 : Below w.heap.size w w8 := by rw [← hw8]; exact hB.drew
  have hA8 : w8.rangeAt w.heap.size 0 q := by rw [← hw8]; exact (World.rangeAt_drew _ _ _ _).2 hA
  have hs8 : w.heap.size < w8.heap.size := by rw [← hw8]; exact hs
  refine hs_begin (S := (Below w8.heap.size w8)) 12 rfl (by kernel_rfl) ?_
  rw [hw8]
  clear hw8 hA hB hs c0
  have hS : (Below w8.heap.size w8) w8 := Below.refl _ _
  refine hs_take (i := 0) (d := some 12) (v := ?_) rfl (by kernel_rfl) (by kernel_rfl) (by kernel_rfl) (by rfl) ?_ hS rfl ?_
  rotate_left
  · intro w' hw
    go_simp
    try with_reducible rfl
  simp only [Act.put, List.setIfInBounds_toArray, List.set_cons_zero, List.set_cons_succ]
  refine hs_take (i := 1) (d := some 13) (v := ?_) rfl (by kernel_rfl) (by kernel_rfl) (by kernel_rfl) (by rfl) ?_ hS rfl ?_
  rotate_left
  · intro w' hw
    go_simp
    try with_reducible rfl
  simp only [Act.put, List.setIfInBounds_toArray, List.set_cons_zero, List.set_cons_succ]
  refine hs_take (i := 2) (d := some 14) (v := .agg q.toArray) rfl (by kernel_rfl) (by kernel_rfl) (by kernel_rfl) (by rfl) (fun w' hw => exec_loadC rfl rfl (run_loadVar_mid (P := Try.prog) w' w.heap.size 0 37 q _ (range_below hA8 hw hs8) Try.underlying37 rfl iq)) hS rfl ?_
  simp only [Act.put, List.setIfInBounds_toArray, List.set_cons_zero, List.set_cons_succ]
  refine hs_take (i := 3) (d := some 15) (v := .agg q.toArray) rfl (by kernel_rfl) (by kernel_rfl) (by kernel_rfl) (by rfl) (fun w' hw => exec_loadC rfl rfl (run_loadVar_mid (P := Try.prog) w' w.heap.size 0 37 q _ (range_below hA8 hw hs8) Try.underlying37 rfl iq)) hS rfl ?_
  simp only [Act.put, List.setIfInBounds_toArray, List.set_cons_zero, List.set_cons_succ]
  refine hs_call (i := 4) (d := some 16) rfl (by kernel_rfl) (by rfl) (by go_simp; first | done | exact ⟨rfl, rfl⟩ | with_reducible rfl) rfl ?_
  refine (hb _).mono ?_
  rintro e' wn1 ⟨rfl, hb1⟩
  have hS : (Below w8.heap.size w8) wn1 := hS.trans (hb1.mono hS.size)
  refine ⟨_, rfl, hS, ?_⟩
  simp only [Act.put, List.setIfInBounds_toArray, List.set_cons_zero, List.set_cons_succ]
  refine hs_call (i := 5) (d := some 17) rfl (by kernel_rfl) (by rfl) (by go_simp; first | done | exact ⟨rfl, rfl⟩ | with_reducible rfl) rfl ?_
  refine (hsm _).mono ?_
  rintro e' wn2 ⟨rfl, hb2⟩
  have hS : (Below w8.heap.size w8) wn2 := hS.trans (hb2.mono hS.size)
  refine ⟨_, rfl, hS, ?_⟩
  simp only [Act.put, List.setIfInBounds_toArray, List.set_cons_zero, List.set_cons_succ]
  refine hs_take (i := 6) (d := some 18) (v := ?_) rfl (by kernel_rfl) (by kernel_rfl) (by kernel_rfl) (by rfl) ?_ hS rfl ?_
  rotate_left
  · intro w' hw
    go_simp
    try with_reducible rfl
  simp only [Act.put, List.setIfInBounds_toArray, List.set_cons_zero, List.set_cons_succ]
  refine hs_take (i := 7) (d := some 19) (v := ?_) rfl (by kernel_rfl) (by kernel_rfl) (by kernel_rfl) (by rfl) ?_ hS rfl ?_
  rotate_left
  · intro w' hw
    go_simp
    try with_reducible rfl
  simp only [Act.put, List.setIfInBounds_toArray, List.set_cons_zero, List.set_cons_succ]
  refine hs_take (i := 8) (d := some 20) (v := .agg q.toArray) rfl (by kernel_rfl) (by kernel_rfl) (by kernel_rfl) (by rfl) (fun w' hw => exec_loadC rfl rfl (run_loadVar_mid (P := Try.prog) w' w.heap.size 0 37 q _ (range_below hA8 hw hs8) Try.underlying37 rfl iq)) hS rfl ?_
  simp only [Act.put, List.setIfInBounds_toArray, List.set_cons_zero, List.set_cons_succ]
  refine hs_call (i := 9) (d := some 21) rfl (by kernel_rfl) (by rfl) (by go_simp; first | done | exact ⟨rfl, rfl⟩ | with_reducible rfl) rfl ?_
  refine (hf _).mono ?_
  rintro e' wn3 ⟨rfl, hb3⟩
  have hS : (Below w8.heap.size w8) wn3 := hS.trans (hb3.mono hS.size)
  refine ⟨_, rfl, hS, ?_⟩
  simp only [Act.put, List.setIfInBounds_toArray, List.set_cons_zero, List.set_cons_succ]
  refine hs_take (i := 10) (d := some 22) (v := ?_) rfl (by kernel_rfl) (by kernel_rfl) (by kernel_rfl) (by rfl) ?_ hS rfl ?_
  rotate_left
  · intro w' hw
    go_simp
    try with_reducible rfl
  simp only [Act.put, List.setIfInBounds_toArray, List.set_cons_zero, List.set_cons_succ]
  refine hs_take (i := 11) (d := some 2) (v := ?_) rfl (by kernel_rfl) (by kernel_rfl) (by kernel_rfl) (by rfl) ?_ hS rfl ?_
  rotate_left
  · intro w' hw
    go_simp
    try with_reducible rfl
  simp only [Act.put, List.setIfInBounds_toArray, List.set_cons_zero, List.set_cons_succ]
  refine hs_done (by kernel_rfl) ?_
  go_wp2
  go_ret
  exact ⟨rfl, hB8.trans (hS.mono (by omega))⟩
end Go.Proofs.Ytahdmajppnffeaa
namespace Go.Proofs.Ytahdmajppnffeaa
open Go.RowKit
open Sha
def strOf (zs : List Int) : ByteArray := zs.foldl (fun r n => r.push (UInt8.ofNat n.toNat)) ByteArray.empty
theorem row_str {w : World} {b off cap : Nat} {zs : List Int} (h : w.rangeAt b off (v8 zs)) : (convert 57 9 (.slice (some ⟨b, off, none⟩) zs.length cap)).run Try.prog w = .ok (.string (strOf zs)) w := by
  rw [run_convert_bytes_string w 57 9 5 (some ⟨b, off, none⟩) zs.length cap Try.underlying57 Try.underlying5 Try.underlying9]
  have := run_loadCells_list (P := Try.prog) w ⟨b, off, none⟩ (v8 zs) (fun j v hv => by rw [Addr.add_mid]; exact h j v hv)
  rw [v8_length] at this
  exact run_bytesToString w ⟨b, off, none⟩ zs.length cap zs this
end Go.Proofs.Ytahdmajppnffeaa
namespace Go.Proofs.Ytahdmajppnffeaa
open Go.RowKit
open Sha Tal
theorem nil_str (w : World) : (convert 57 9 (.slice none 0 0)).run Try.prog w = .ok (.string (strOf [])) w := by kernel_rfl
set_option maxRecDepth 100000 in
theorem mine_str {w : World} {B : Nat} {v : Value} {zs : List Int} (h : Mine w B v zs) : (convert 57 9 v).run Try.prog w = .ok (.string (strOf zs)) w := by
  rcases own_range h.1 with ⟨rfl, h0, _⟩ | ⟨g, cap, rfl, _, _, _, _, hr⟩
  · have : zs = [] := List.eq_nil_of_length_eq_zero h0
    subst this
    exact nil_str w
  · exact row_str hr
theorem wr_new (w : World) : WrAt (w.alloc (.cells #[.slice none 0 0, .bool false] 59)) w.heap.size (.slice none 0 0) [] false where
  lt := by simp
  c0 := by have := range_new w #[.slice none 0 0, .bool false] 59 0 _ rfl; exact this
  c1 := by have := range_new w #[.slice none 0 0, .bool false] 59 1 _ rfl; exact this
  th := there_new w #[.slice none 0 0, .bool false] 59
  me := ⟨World.ownsRow_nil _ _ _ _, by simp⟩
/-- what Encode tells of a message that may be, or not, whose bytes are zs -/
def encV (b : Bool) (zs : List Int) : Value := if b then .tuple #[.string (strOf zs), .int .i64 0] else .tuple #[.string ⟨#[]⟩, .int .i64 130]
/-- a message's bytes are written -/
def Writes (q : List Value) (zs : List Int) : Prop := ∀ (X : Nat) (w : World), WrAt w X (.slice none 0 0) [] false → Calls Try.prog 13 #[.pointer (some ⟨X, 0, none⟩), .agg q.toArray] w fun e w' => ∃ v', e = .returned (.tuple #[]) ∧ WrAt w' X v' zs false ∧ Off (WrF X (.slice none 0 0)) w w' ∧ RowOn w (.slice none 0 0) v'
set_option maxRecDepth 100000 in
set_option maxHeartbeats 4000000 in
theorem enc0 (q : List Value) (b : Bool) (zs : List Int) (w : World) (hq : q.length = 119)
    (hg : ∀ w, Calls Try.prog 10 #[.agg q.toArray] w fun e w' => e = .returned (.bool b) ∧ Below w.heap.size w w') (hw : b = true → Writes q zs) :
    Calls Try.prog 7 #[.agg q.toArray] w fun e w' => e = .returned (encV b zs) ∧ Below w.heap.size w w' := by
  have hB : Below w.heap.size w (w.alloc (.cells q.toArray 37)) := (Below.refl _ _).alloc (Nat.le_refl _) _
  have hs : w.heap.size < (w.alloc (.cells q.toArray 37)).heap.size := by simp
  have hA : (w.alloc (.cells q.toArray 37)).rangeAt w.heap.size 0 q := by simpa using range_new w q.toArray 37
  have iq : (Try.prog.info? 37).map (·.size) = some q.length := by rw [hq]; exact iszM
  clear hq
  cases b
  · show Calls Try.prog 7 #[.agg q.toArray] w fun e w' => e = .returned (.tuple #[.string ⟨#[]⟩, .int .i64 130]) ∧ Below w.heap.size w w'
    clear hw
    go_enter Try.func7, Try.ntmps7
    go_upto_region 1 with fail
    go_name_world w1 hw1
    rw [show w.alloc (.cells q.toArray 37) = w1 from hw1] at hB hs hA
    clear hw1
    go_wp2_with (refine wpList_load_mid rfl 37 _ rfl _ _ rfl q _ hA Try.underlying37 rfl iq ?_)
    refine (hg _).mono ?_
    rintro e2 w2 ⟨rfl, hb2⟩
    have hB2 := hB.trans (hb2.mono (by omega))
    clear hA hg hB hb2
    go_wp2
    go_ret2
    exact ⟨rfl, hB2⟩
  · show Calls Try.prog 7 #[.agg q.toArray] w fun e w' => e = .returned (.tuple #[.string (strOf zs), .int .i64 0]) ∧ Below w.heap.size w w'
    replace hw := hw rfl
    obtain ⟨sz, hsz⟩ : ∃ sz, Hid (strOf zs = sz) := ⟨_, hide rfl⟩
    rw [hsz.out]
    go_enter Try.func7, Try.ntmps7
    go_upto_region 1 with fail
    go_name_world w1 hw1
    rw [show w.alloc (.cells q.toArray 37) = w1 from hw1] at hB hs hA
    clear hw1
    go_wp2_with (refine wpList_load_mid rfl 37 _ rfl _ _ rfl q _ hA Try.underlying37 rfl iq ?_)
    refine (hg _).mono ?_
    rintro e2 w2 ⟨rfl, hb2⟩
    have hB2 := hB.trans (hb2.mono (by omega))
    have hA2 := range_below hA hb2 hs
    have hs2 := Nat.lt_of_lt_of_le hs hb2.size
    clear hA hg hB hb2 hs
    go_upto_region 4 with fail
    have hN := wr_new w2
    have hB3 : Below w2.heap.size w2 (w2.alloc (.cells #[.slice none 0 0, .bool false] 59)) := (Below.refl _ _).alloc (Nat.le_refl _) _
    go_name_world w3 hw3
    rw [show w2.alloc (.cells #[.slice none 0 0, .bool false] 59) = w3 from hw3] at hN hB3
    clear hw3
    have hA3 := range_below hA2 hB3 hs2
    have hB4 := hB2.trans (hB3.mono (by omega))
    have cw := hw w2.heap.size w3 hN
    have hs3 := hN.lt
    clear hA2 hB2 hB3 hw hN
    go_wp2_with (refine wpList_load_mid rfl 37 _ rfl _ _ rfl q _ hA3 Try.underlying37 rfl iq ?_)
    refine cw.mono ?_
    rintro e5 w5 ⟨v5, rfl, hW5, hO5, _⟩
    have c0 := hW5.c0
    have c1 := hW5.c1
    have hcs := mine_str hW5.me
    have hB5 := hB4.trans (hO5.below (n := w.heap.size) (by omega) (fun b hb hf => by
      rcases hf with hf | hf
      · omega
      · cases hf))
    obtain ⟨a5, cap5, rfl⟩ : ∃ a cap, v5 = .slice a zs.length cap := by
      rcases own_range hW5.me.1 with ⟨rfl, h0, _⟩ | ⟨g, cap, rfl, _⟩
      · exact ⟨none, 0, by rw [h0]⟩
      · exact ⟨_, cap, rfl⟩
    rw [hsz.out] at hcs
    clear hsz cw hW5 hO5 hA3 hB4
    go_wp2
    go_ret2
    exact ⟨rfl, hB5⟩
end Go.Proofs.Ytahdmajppnffeaa
namespace Go.Proofs.Ytahdmajppnffeaa
open Go.RowKit
open Sha Tal
theorem wrS_ok {zs bs : List Int} (h : zs.length + bs.length ≤ 4194304) : wrS (zs, false) bs = (zs ++ bs, false) := by
  have e : fullB false bs.length zs = false := by
    unfold fullB
    rw [Bool.false_or]
    exact decide_eq_false (by omega)
  unfold wrS
  simp only [e, wrL_f]
theorem putL_len {n : Int} (h : n ≤ 9223372036854775807) : (putL n).length ≤ 9 := putL_length n (by omega)
theorem wrN1 {zs : List Int} {a : Int} (ha : a ≤ 9223372036854775807) (hz : zs.length ≤ 1000) : wrN (zs, false) [a] = (zs ++ putL a, false) := by
  have := putL_len ha
  show wrS (zs, false) (putL a) = _
  rw [wrS_ok (by omega)]
theorem wrN2 {zs : List Int} {a b : Int} (ha : a ≤ 9223372036854775807) (hb : b ≤ 9223372036854775807) (hz : zs.length ≤ 1000) : wrN (zs, false) [a, b] = (zs ++ putL a ++ putL b, false) := by
  have h1 := putL_len ha
  have h2 := putL_len hb
  show wrS (wrS (zs, false) (putL a)) (putL b) = _
  rw [wrS_ok (by omega), wrS_ok (by rw [List.length_append]; omega)]
def statL (e s : Int) : List Int := putL 6 ++ putL e ++ putL s
theorem writes6 : Writes (Ms.plain 6 2 9 Vt.zero zeros32).cells (statL 2 9) := fun X w h => by
  have := wmsg6 X (.slice none 0 0) ([], false) (Ms.plain 6 2 9 Vt.zero zeros32) w (Ms.plain_ok 6 2 9 Vt.zero_ok zeros32_len zeros32_byte) rfl (by decide) (by decide) h (by simp)
  have e1 : (wrN (wrN ([], false) [6]) [(Ms.plain 6 2 9 Vt.zero zeros32).e, (Ms.plain 6 2 9 Vt.zero zeros32).s]) = (statL 2 9, false) := by
    show wrN (wrN ([], false) [6]) [2, 9] = _
    have p := @putL_len 6 (by omega)
    rw [wrN1 (by omega) (by simp), List.nil_append, wrN2 (by omega) (by omega) (by omega)]
    rfl
  rw [e1] at this
  exact this
theorem good6 (w : World) : Calls Try.prog 10 #[.agg (Ms.plain 6 2 9 Vt.zero zeros32).cells.toArray] w fun er w' => er = .returned (.bool true) ∧ Below w.heap.size w w' :=
  good0 _ 6 _ w (Ms.plain_ok 6 2 9 Vt.zero_ok zeros32_len zeros32_byte).len rfl (by omega) (by omega) (fun w => bare6 2 9 w) (fun w => msame0 6 2 9 Vt.zero zeros32 Vt.zero_ok zeros32_len zeros32_byte w) (fun w => fmay6 w)
theorem enc6 (w : World) : Calls Try.prog 7 #[.agg (Ms.plain 6 2 9 Vt.zero zeros32).cells.toArray] w fun er w' => er = .returned (encV true (statL 2 9)) ∧ Below w.heap.size w w' :=
  enc0 _ _ _ w (Ms.plain_ok 6 2 9 Vt.zero_ok zeros32_len zeros32_byte).len (fun w => good6 w) (fun _ => writes6)
end Go.Proofs.Ytahdmajppnffeaa
namespace Go.Proofs.Ytahdmajppnffeaa
open Go.RowKit
open Sha Tal
theorem wpList_store_c {P : Program} {ops : Array Oper} {rest : List Oper} {op : Oper} {a : Act} {w : World} {Q : Exit → Act → World → Prop} (hgd : op.guard = none) (ty : TypeId) (x y : Operand) (ho : op.op = .store ty x y)
    (b o : Nat) (v : Value) (hx : a.eval x = .pointer (some ⟨b, o, none⟩)) (hy : a.eval y = v)
    (ht : w.there b o 1) (hi : (P.info? ty).map (·.size) = some 1) (hv : v.cells = #[v]) (h1 : v.oneCell' = true)
    (h : wpList P ops Q rest (a.put op.dst undef) (w.setCells b o [v])) : wpList P ops Q (op :: rest) a w :=
  wpList_plain hgd fun _ hK => by
    unfold Oper.wp execOp
    simp only [ho, hx, hy, Instr.storeAt, Instr.sureAddr, Sem.run_bind, Sem.run_pure, Result.andThen_ok, store_cell w b o ty v ht hi hv h1]
    exact hK _ _ h
end Go.Proofs.Ytahdmajppnffeaa
namespace Go.Proofs.Ytahdmajppnffeaa
open Go.RowKit
open Sha Tal
theorem Mine.base {w : World} {B B' : Nat} {v : Value} {zs : List Int} (h : Mine w B v zs) (hB : B' ≤ B) : Mine w B' v zs := by
  refine ⟨⟨h.1.1, ?_⟩, h.2⟩
  rcases h.1.2 with q | ⟨g, c, cur, q1, q2, q3⟩
  · exact .inl q
  · exact .inr ⟨g, c, cur, q1, Nat.le_trans hB q2, q3⟩
end Go.Proofs.Ytahdmajppnffeaa
namespace Go.Proofs.Ytahdmajppnffeaa
open Go.RowKit
open Sha Tal
theorem row_mine {w : World} {a : Option Addr} {zs : List Int} (h : RowAt w a zs) (cap : Nat) : (convert 57 9 (.slice a zs.length cap)).run Try.prog w = .ok (.string (strOf zs)) w := by
  rcases h.2.2 with rfl | ⟨b, off, rfl, _, hr⟩
  · rw [List.length_nil, run_convert_bytes_string w 57 9 5 a 0 cap Try.underlying57 Try.underlying5 Try.underlying9]
    cases a <;> rfl
  · exact row_str hr
/-- a reader's block: its place holds some slice, it was made, its error is e -/
def RdE (w : World) (R : Nat) (e : Int) : Prop :=
  R < w.heap.size ∧ (∃ a n c, w.cell? ⟨R, 0, none⟩ = some (.slice a n c)) ∧ w.cell? ⟨R, 1, none⟩ = some (.bool true) ∧ w.cell? ⟨R, 2, none⟩ = some (.int .i64 e) ∧
  w.frozen? ⟨R, 0, none⟩ = false ∧ w.frozen? ⟨R, 1, none⟩ = false ∧ w.frozen? ⟨R, 2, none⟩ = false
/-- what is ahead of it -/
def Rest (w : World) (R : Nat) (rest : List Int) : Prop :=
  ∃ a cap, w.cell? ⟨R, 0, none⟩ = some (.slice a rest.length cap) ∧ rest.length ≤ cap ∧ cap ≤ maxLen ∧ RowAt w a rest ∧ ∀ x, a = some x → x.block < R
def St (w : World) (R : Nat) (rest : List Int) (e : Int) : Prop := RdE w R e ∧ (e = 0 → Rest w R rest)

theorem RdE.set0 {w : World} {R : Nat} {e : Int} (h : RdE w R e) (a : Option Addr) (n c : Nat) : RdE (w.setCell ⟨R, 0, none⟩ (.slice a n c)) R e := by
  obtain ⟨hR, ⟨a', n', c', h0⟩, h1, h2, f0, f1, f2⟩ := h
  refine ⟨by simpa [World.setCell] using hR, ⟨a, n, c, World.cell?_setCell_same _ _ _ h0⟩, (World.cell?_setCell_other _ _ _ _ (by simp)).trans h1, (World.cell?_setCell_other _ _ _ _ (by simp)).trans h2,
    (World.frozen?_setCell _ _ _ _).trans f0, (World.frozen?_setCell _ _ _ _).trans f1, (World.frozen?_setCell _ _ _ _).trans f2⟩
theorem RdE.set2 {w : World} {R : Nat} {e : Int} (h : RdE w R e) (e' : Int) : RdE (w.setCell ⟨R, 2, none⟩ (.int .i64 e')) R e' := by
  obtain ⟨hR, ⟨a', n', c', h0⟩, h1, h2, f0, f1, f2⟩ := h
  refine ⟨by simpa [World.setCell] using hR, ⟨a', n', c', (World.cell?_setCell_other _ _ _ _ (by simp)).trans h0⟩, (World.cell?_setCell_other _ _ _ _ (by simp)).trans h1, World.cell?_setCell_same _ _ _ h2,
    (World.frozen?_setCell _ _ _ _).trans f0, (World.frozen?_setCell _ _ _ _).trans f1, (World.frozen?_setCell _ _ _ _).trans f2⟩
theorem RowAt.get {w : World} {a : Option Addr} {zs : List Int} (h : RowAt w a zs) (k : Nat) (hk : k < zs.length) : ∃ b off, a = some ⟨b, off, none⟩ ∧ b < w.heap.size ∧ w.cell? ⟨b, off + k, none⟩ = some (.int .u8 (zs.getD k 0)) ∧ 0 ≤ zs.getD k 0 ∧ zs.getD k 0 < 256 := by
  rcases h.2.2 with rfl | ⟨b, off, rfl, hb, hr⟩
  · simp at hk
  · refine ⟨b, off, rfl, hb, get8 hr hk, ?_⟩
    rw [List.getD_eq_getElem?_getD, List.getElem?_eq_getElem hk]
    exact h.2.1 _ (List.getElem_mem hk)
theorem cutA_lt {a : Option Addr} {R cap n : Nat} (h : ∀ x, a = some x → x.block < R) : ∀ x, cutA a cap n = some x → x.block < R := by
  intro x hx
  unfold cutA at hx
  split at hx
  · exact h x hx
  · cases a with
    | none => simp at hx
    | some y =>
      simp only [Option.map_some, Option.some.injEq] at hx
      subst hx
      have := h y rfl
      unfold Addr.add
      split <;> exact this
theorem lt_ne {a : Option Addr} {R : Nat} (h : ∀ x, a = some x → x.block < R) : ∀ x, a = some x → x.block ≠ R := fun x hx => Nat.ne_of_lt (h x hx)
theorem err_made (R : Nat) (e : Int) (w : World) (h : RdE w R e) :
    Calls Try.prog 70 #[.pointer (some ⟨R, 0, none⟩)] w fun en w' => en = .returned (.int .i64 e) ∧ w' = w := by
  obtain ⟨hR, ⟨a, n, c, h0⟩, h1, h2, f0, f1, f2⟩ := h
  go_enter Try.func70, Try.ntmps70
  go_wp2
  go_ret
  exact ⟨rfl, rfl⟩
theorem left_any (R : Nat) (a : Option Addr) (n c : Nat) (w : World) (h0 : w.cell? ⟨R, 0, none⟩ = some (.slice a n c)) :
    Calls Try.prog 81 #[.pointer (some ⟨R, 0, none⟩)] w fun en w' => en = .returned (.int .i64 (n : Int)) ∧ w' = w := by
  go_enter Try.func81, Try.ntmps81
  go_wp2
  go_ret
  exact ⟨rfl, rfl⟩
set_option maxHeartbeats 400000 in
theorem take_any (R : Nat) (a : Option Addr) (n len c : Nat) (w : World) (h0 : w.cell? ⟨R, 0, none⟩ = some (.slice a len c)) (f0 : w.frozen? ⟨R, 0, none⟩ = false) (hn : n ≤ len) (hc : len ≤ c) (hm : c ≤ maxLen) :
    Calls Try.prog 95 #[.pointer (some ⟨R, 0, none⟩), .int .i64 (n : Int)] w fun en w' => en = .returned (.slice a n c) ∧ w' = w.setCell ⟨R, 0, none⟩ (.slice (cutA a c n) (len - n) (c - n)) := by
  unfold maxLen at hm
  by_cases h : c = n
  · subst h
    obtain rfl : len = c := by omega
    go_enter Try.func95, Try.ntmps95
    go_wp2
    go_ret
    exact ⟨rfl, by simp [cutA]⟩
  · go_enter Try.func95, Try.ntmps95
    go_wp2
    go_ret
    exact ⟨rfl, by simp [cutA, h]⟩
set_option maxHeartbeats 400000 in
theorem fail_any (R : Nat) (e0 e : Int) (w : World) (h : RdE w R e0) :
    Calls Try.prog 72 #[.pointer (some ⟨R, 0, none⟩), .int .i64 e] w fun en w' => en = .returned (.tuple #[]) ∧ RdE w' R e ∧ w.grownBy w' (some R) := by
  have hE := (h.set2 e).set0 none 0 0
  have hg := gb_trans (gb_set w R 2 (.int .i64 e)) (gb_set (w.setCell ⟨R, 2, none⟩ (.int .i64 e)) R 0 (.slice none 0 0))
  obtain ⟨hR, ⟨a, n, c, h0⟩, h1, h2, f0, f1, f2⟩ := h
  go_enter Try.func72, Try.ntmps72
  go_wp2
  go_end0
  exact ⟨rfl, hE, hg⟩

theorem val_bound (l : List Int) (h : ∀ z ∈ l, 0 ≤ z ∧ z < 256) : 0 ≤ val l ∧ val l < 256 ^ l.length := by
  have : ∀ k, k ≤ l.length → 0 ≤ val (l.take k) ∧ val (l.take k) < 256 ^ k := by
    intro k
    induction k with
    | zero => intro _; simp [val]
    | succ k ih =>
      intro hk
      have hlt : k < l.length := by omega
      obtain ⟨i1, i2⟩ := ih (by omega)
      have hz := h l[k] (List.getElem_mem hlt)
      rw [List.take_succ_eq_append_getElem hlt, val_snoc, Int.pow_succ]
      omega
  have := this l.length (Nat.le_refl _)
  rwa [List.take_length] at this
theorem val_take (l : List Int) (k : Nat) (h : k < l.length) : val (l.take (k + 1)) = val (l.take k) * 256 + l.getD k 0 := by
  rw [List.take_succ_eq_append_getElem h, val_snoc, List.getD_eq_getElem?_getD, List.getElem?_eq_getElem h]; rfl
theorem or_join (x d : Int) (h0 : 0 ≤ x) (h1 : x < 72057594037927936) (h2 : 0 ≤ d) (h3 : d < 256) : bits .or .u64 (x * 256) d = x * 256 + d := by
  obtain ⟨m, rfl⟩ := Int.eq_ofNat_of_zero_le h0
  obtain ⟨q, rfl⟩ := Int.eq_ofNat_of_zero_le h2
  have e : ((m : Int) * 256) = ((m * 256 : Nat) : Int) := by omega
  rw [e, u64_or_nat _ _ (by omega) (by omega), nat_join 8 _ _ (by omega) (by omega)]
  omega
/-- what value answers -/
def valR (ds : List Int) : Int × Int := if ds.head? = some 0 ∨ 9223372036854775807 < val ds then (0, 11) else (val ds, 0)
set_option maxHeartbeats 800000 in
theorem value_any (a : Option Addr) (cap : Nat) (ds : List Int) (w : World) (h : RowAt w a ds) (hl : ds.length ≤ 8) :
    Calls Try.prog 96 #[.slice a ds.length cap] w fun en w' => en = .returned (.tuple #[.int .i64 (valR ds).1, .int .i64 (valR ds).2]) ∧ w' = w := by
  by_cases hh : ds.head? = some 0
  · have HV : Hid (valR ds = (0, 11)) := by show _ = _; simp [valR, hh]
    obtain ⟨tl, rfl⟩ : ∃ tl, ds = 0 :: tl := by
      cases ds with
      | nil => simp at hh
      | cons x tl => simp at hh; exact ⟨tl, by rw [hh]⟩
    obtain ⟨b, off, rfl, hb, hc, _⟩ := h.get 0 (by simp)
    have hc' : w.cell? ⟨b, off, none⟩ = some (.int .u8 0) := by simpa using hc
    have hp : (0 : Int) < ((0 :: tl : List Int).length : Int) := by simp
    generalize (0 :: tl : List Int) = ds at *
    go_enter Try.func96, Try.ntmps96
    go_wp2
    go_ret2
    rw [HV.out]
    exact ⟨rfl, rfl⟩
  · have hz := h.2.1
    have hstart : ds = [] ∨ ∃ b off z, a = some ⟨b, off, none⟩ ∧ w.cell? ⟨b, off, none⟩ = some (.int .u8 z) ∧ (z == 0) = false ∧ 0 < ds.length := by
      cases ds with
      | nil => exact Or.inl rfl
      | cons x tl =>
        obtain ⟨b, off, rfl, hb, hc, _⟩ := h.get 0 (by simp)
        exact Or.inr ⟨b, off, x, rfl, by simpa using hc, by simpa using hh, by simp⟩
    have hval := val_bound ds hz
    rcases hstart with rfl | ⟨b, off, z0, rfl, hc0, hne, hpos⟩
    · go_enter Try.func96, Try.ntmps96
      go_wp2
      refine wp_loop_rounds 1 ?_
      rw [rounds_succ]
      go_wp2
      go_ret2
      exact ⟨rfl, rfl⟩
    · have hp : (0 : Int) < (ds.length : Int) := by omega
      have hc : ∀ j, j < ds.length → w.cell? ⟨b, off + j, none⟩ = some (.int .u8 (ds.getD j 0)) := by
        obtain ⟨_, _, hd | ⟨b', off', hx, _, hc⟩⟩ := h
        · rw [hd] at hpos; simp at hpos
        · simp only [Option.some.injEq, Addr.mk.injEq] at hx
          obtain ⟨rfl, rfl, _⟩ := hx
          exact fun j hj => get8 hc hj
      have HC : Hid (∀ j, j < ds.length → w.cell? ⟨b, off + j, none⟩ = some (.int .u8 (ds.getD j 0))) := hc
      have HR : Hid (valR ds = if 9223372036854775807 < val ds then (0, 11) else (val ds, 0)) := by show _ = _; simp [valR, hh]
      clear hc h hh
      go_enter Try.func96, Try.ntmps96
      go_wp2
      go_loop [4, 17] (fun n i => ∃ k : Nat, k ≤ ds.length ∧ i = .int .i64 k ∧ n = .int .u64 (val (ds.take k))) (fun _ i => ds.length - (intOf i).toNat)
      case atStart => exact ⟨0, by omega, rfl, rfl⟩
      case round =>
        obtain ⟨k, hk, rfl, rfl⟩ := hrel
        by_cases hlt : k < ds.length
        · obtain ⟨z, hcx, hz0, hz1, HV⟩ : ∃ z, w.cell? ⟨b, off + k, none⟩ = some (.int .u8 z) ∧ 0 ≤ z ∧ z < 256 ∧ Hid (val (ds.take (k + 1)) = val (ds.take k) * 256 + z) := by
            refine ⟨ds.getD k 0, HC.out k hlt, ?_, ?_, val_take ds k hlt⟩ <;> rw [List.getD_eq_getElem?_getD, List.getElem?_eq_getElem hlt]
            · exact (hz _ (List.getElem_mem hlt)).1
            · exact (hz _ (List.getElem_mem hlt)).2
          have hb7 : 0 ≤ val (ds.take k) ∧ val (ds.take k) < 72057594037927936 := by
            have := val_bound (ds.take k) (fun z hz' => hz z (List.mem_of_mem_take hz'))
            rw [List.length_take_of_le (by omega)] at this
            have h7 : 256 ^ k ≤ 72057594037927936 := Nat.le_trans (Nat.pow_le_pow_right (by omega) (show k ≤ 7 by omega)) (by decide)
            have e7 : ((256 ^ k : Nat) : Int) = (256 : Int) ^ k := Int.natCast_pow 256 k
            rw [← e7] at this
            omega
          obtain ⟨hx0, hx1⟩ := hb7
          have ej := or_join (val (ds.take k)) z hx0 hx1 hz0 hz1
          generalize val (ds.take k) = X at *
          go_wp2
          go_round
          case rel => exact ⟨k + 1, by omega, by go_num, by rw [HV.out]⟩
          case measure => simp [intOf]; omega
        · obtain rfl : k = ds.length := by omega
          rw [List.take_length]
          by_cases hbig : 9223372036854775807 < val ds
          · go_wp2
            go_ret2
            rw [HR.out, if_pos hbig]
            exact ⟨rfl, rfl⟩
          · go_wp2
            go_ret2
            rw [HR.out, if_neg (by omega)]
            exact ⟨rfl, rfl⟩
end Go.Proofs.Ytahdmajppnffeaa
namespace Go.Proofs.Ytahdmajppnffeaa
open Go.RowKit
open Sha Tal
/-- what stands at the beginning of bytes: the number, how many bytes it took, the error -/
def numR : List Int → Int × Nat × Int
  | [] => (0, 0, 10)
  | k :: tl => if 8 < k then (0, 0, 11) else if (tl.length : Int) < k then (0, 0, 10) else
      if (valR (tl.take k.toNat)).2 = 0 then ((valR (tl.take k.toNat)).1, 1 + k.toNat, 0) else (0, 0, (valR (tl.take k.toNat)).2)
theorem valR_err (ds : List Int) (h : (valR ds).2 ≠ 0) : valR ds = (0, 11) := by
  unfold valR at h ⊢
  split
  · rfl
  · rename_i hh; rw [if_neg hh] at h; exact absurd rfl h
theorem Rest.cell {w : World} {R : Nat} {rest : List Int} (h : Rest w R rest) : ∃ a cap, w.cell? ⟨R, 0, none⟩ = some (.slice a rest.length cap) ∧ rest.length ≤ cap ∧ cap ≤ maxLen ∧ RowAt w a rest ∧ ∀ x, a = some x → x.block < R := h
set_option maxHeartbeats 1600000 in
theorem number_any (R : Nat) (e0 : Int) (rest : List Int) (w : World) (hE : RdE w R e0) (hR : Rest w R rest) :
    Calls Try.prog 71 #[.pointer (some ⟨R, 0, none⟩)] w fun en w' => en = .returned (.tuple #[.int .i64 (numR rest).1, .int .i64 (numR rest).2.2]) ∧ RdE w' R e0 ∧ w.grownBy w' (some R) ∧ ((numR rest).2.2 = 0 → Rest w' R (rest.drop (numR rest).2.1)) := by
  obtain ⟨a, cap, h0, hc, hm, hrow, hlt⟩ := hR
  have hne := lt_ne hlt
  have f0 := hE.2.2.2.2.1
  cases rest with
  | nil =>
    have h0' : w.cell? ⟨R, 0, none⟩ = some (.slice a 0 cap) := h0
    go_enter Try.func71, Try.ntmps71
    go_wp2_with fail
    refine (left_any R a 0 cap w h0').mono ?_
    rintro e w1 ⟨rfl, rfl⟩
    go_wp2
    go_ret2
    exact ⟨rfl, hE, gb_refl _ _, fun h => by cases h⟩
  | cons k tl =>
    obtain ⟨b, off, rfl, hb, hcb, hk0, hk1⟩ := hrow.get 0 (by simp)
    have hk : (k :: tl).getD 0 0 = k := rfl
    rw [hk] at hcb hk0 hk1
    have hbR : b ≠ R := hne _ rfl
    have hcb1 : (w.setCell ⟨R, 0, none⟩ (.slice (cutA (some ⟨b, off, none⟩) cap 1) ((k :: tl).length - 1) (cap - 1))).cell? ⟨b, off, none⟩ = some (.int .u8 k) :=
      (World.cell?_setCell_other _ _ _ _ (by intro hx; injection hx with hx1; exact hbR hx1.symm)).trans (by simpa using hcb)
    have hE1 := hE.set0 (cutA (some ⟨b, off, none⟩) cap 1) ((k :: tl).length - 1) (cap - 1)
    have hg1 := gb_set w R 0 (.slice (cutA (some ⟨b, off, none⟩) cap 1) ((k :: tl).length - 1) (cap - 1))
    have hr1 := (hrow.drop 1 cap (by simp) hc).gb hg1 (.inr (cutA_ne hne))
    have h01 : (w.setCell ⟨R, 0, none⟩ (.slice (cutA (some ⟨b, off, none⟩) cap 1) ((k :: tl).length - 1) (cap - 1))).cell? ⟨R, 0, none⟩ = some (.slice (cutA (some ⟨b, off, none⟩) cap 1) ((k :: tl).length - 1) (cap - 1)) := World.cell?_setCell_same _ _ _ h0
    have hlen : (k :: tl).length - 1 = tl.length := by simp
    rw [hlen] at hE1 hg1 hr1 h01 hcb1
    generalize hW1 : w.setCell ⟨R, 0, none⟩ (.slice (cutA (some ⟨b, off, none⟩) cap 1) tl.length (cap - 1)) = W1 at *
    have c1 := take_any R (some ⟨b, off, none⟩) 1 (k :: tl).length cap w h0 f0 (by simp) hc hm
    rw [hlen, hW1] at c1
    have HW1 : Hid (w.setCell ⟨R, 0, none⟩ (.slice (cutA (some ⟨b, off, none⟩) cap 1) tl.length (cap - 1)) = W1) := hW1
    clear hW1
    have hpos : (((k :: tl).length : Int) == 0) = false := by simp; omega
    have hnm := cutA_ne (cap := cap) (n := 1) hne
    have hltm := cutA_lt (cap := cap) (n := 1) hlt
    generalize hA1 : cutA (some ⟨b, off, none⟩) cap 1 = A1 at *
    clear hA1
    have cl := left_any R (some ⟨b, off, none⟩) (k :: tl).length cap w h0
    go_enter Try.func71, Try.ntmps71
    go_wp2_with fail
    refine cl.mono ?_
    rintro e w1 ⟨rfl, rfl⟩
    clear cl
    go_wp2_with fail
    refine c1.mono ?_
    rintro e w2 ⟨rfl, rfl⟩
    clear c1
    by_cases hk8 : 8 < k
    · have HN : Hid (numR (k :: tl) = (0, 0, 11)) := by show _ = _; simp [numR, hk8]
      go_wp2_with fail
      go_ret2
      rw [HN.out]
      exact ⟨rfl, hE1, hg1, fun h => by cases h⟩
    · by_cases hkl : (tl.length : Int) < k
      · have HN : Hid (numR (k :: tl) = (0, 0, 10)) := by show _ = _; simp [numR, hk8, hkl]
        go_wp2_with fail
        refine (left_any R A1 tl.length (cap - 1) w2 h01).mono ?_
        rintro e w3 ⟨rfl, rfl⟩
        go_wp2_with fail
        go_ret2
        rw [HN.out]
        exact ⟨rfl, hE1, hg1, fun h => by cases h⟩
      · obtain ⟨q, hqk⟩ : ∃ q : Nat, k.toNat = q := ⟨_, rfl⟩
        have hkq : (q : Int) = k := by omega
        have hq : q ≤ tl.length := by omega
        have hcl : tl.length ≤ cap - 1 := by simp at hc; omega
        have c2 := take_any R A1 q tl.length (cap - 1) w2 h01 hE1.2.2.2.2.1 hq hcl (by omega)
        rw [hkq] at c2
        have hE2 := hE1.set0 (cutA A1 (cap - 1) q) (tl.length - q) (cap - 1 - q)
        have hg2 := gb_set w2 R 0 (.slice (cutA A1 (cap - 1) q) (tl.length - q) (cap - 1 - q))
        have hr1' : RowAt w2 A1 tl := by simpa using hr1
        have hr2 := (hr1'.take q).gb hg2 (.inr hnm)
        have hr3 := (hr1'.drop q (cap - 1) hq hcl)
        have h02 : (w2.setCell ⟨R, 0, none⟩ (.slice (cutA A1 (cap - 1) q) (tl.length - q) (cap - 1 - q))).cell? ⟨R, 0, none⟩ = some (.slice (cutA A1 (cap - 1) q) (tl.length - q) (cap - 1 - q)) := World.cell?_setCell_same _ _ _ h01
        have hRest : Rest (w2.setCell ⟨R, 0, none⟩ (.slice (cutA A1 (cap - 1) q) (tl.length - q) (cap - 1 - q))) R (tl.drop q) := by
          refine ⟨cutA A1 (cap - 1) q, cap - 1 - q, by rw [List.length_drop]; exact h02, by rw [List.length_drop]; omega, by omega, ?_, ?_⟩
          · exact hr3.gb hg2 (.inr (cutA_ne hnm))
          · exact cutA_lt hltm
        generalize w2.setCell ⟨R, 0, none⟩ (.slice (cutA A1 (cap - 1) q) (tl.length - q) (cap - 1 - q)) = W2 at *
        have hqt : (tl.take q).length = q := List.length_take_of_le hq
        have c3 := value_any A1 (cap - 1) (tl.take q) W2 hr2 (by omega)
        rw [hqt] at c3
        have HN : Hid (numR (k :: tl) = if (valR (tl.take q)).2 = 0 then ((valR (tl.take q)).1, 1 + q, 0) else (0, 0, (valR (tl.take q)).2)) := by
          show _ = _
          simp only [numR, if_neg hk8, if_neg hkl, hqk]
        clear hr1 hr2 hr3 hqt hqk hkq
        go_wp2_with fail
        refine (left_any R A1 tl.length (cap - 1) w2 h01).mono ?_
        rintro e w3 ⟨rfl, rfl⟩
        go_wp2_with fail
        refine c2.mono ?_
        rintro e w4 ⟨rfl, rfl⟩
        clear c2
        go_wp2_with fail
        refine c3.mono ?_
        rintro e w5 ⟨rfl, rfl⟩
        clear c3
        go_wp2_with fail
        go_ret2
        refine ⟨?_, hE2, gb_trans hg1 hg2, ?_⟩
        · rw [HN.out]
          by_cases hv : (valR (tl.take q)).2 = 0
          · rw [if_pos hv, hv]; exact rfl
          · rw [if_neg hv, valR_err _ hv]; exact rfl
        · rw [HN.out]
          by_cases hv : (valR (tl.take q)).2 = 0
          · rw [if_pos hv]; intro _; rw [Nat.add_comm]; exact hRest
          · rw [if_neg hv]; intro h; exact absurd h hv
end Go.Proofs.Ytahdmajppnffeaa
namespace Go.Proofs.Ytahdmajppnffeaa
open Go.RowKit
open Sha Tal
/-- what Num answers, what is ahead then, the error then -/
def numS (rest : List Int) (e most : Int) : Int × List Int × Int :=
  if e = 0 then
    if (numR rest).2.2 = 0 then
      if most < (numR rest).1 then (0, rest, 3) else ((numR rest).1, rest.drop (numR rest).2.1, 0)
    else (0, rest, (numR rest).2.2)
  else (0, rest, e)
set_option maxHeartbeats 1600000 in
theorem num_any (R : Nat) (rest : List Int) (e most : Int) (w : World) (h : St w R rest e) :
    Calls Try.prog 38 #[.pointer (some ⟨R, 0, none⟩), .int .i64 most] w fun en w' => en = .returned (.int .i64 (numS rest e most).1) ∧ St w' R (numS rest e most).2.1 (numS rest e most).2.2 ∧ w.grownBy w' (some R) := by
  obtain ⟨hE, hR⟩ := h
  by_cases he : e = 0
  · subst he
    have hR := hR rfl
    have cn := number_any R 0 rest w hE hR
    have HS : Hid (numS rest 0 most = if (numR rest).2.2 = 0 then (if most < (numR rest).1 then (0, rest, 3) else ((numR rest).1, rest.drop (numR rest).2.1, 0)) else (0, rest, (numR rest).2.2)) := by show _ = _; simp [numS]
    generalize (numR rest).1 = v at *
    generalize (numR rest).2.1 = c at *
    generalize (numR rest).2.2 = er at *
    by_cases her : er = 0
    · subst her
      rw [if_pos rfl] at HS
      by_cases hmost : most < v
      · rw [if_pos hmost] at HS
        go_enter Try.func38, Try.ntmps38
        go_wp2_with fail
        refine (err_made R 0 w hE).mono ?_
        rintro e w1 ⟨rfl, rfl⟩
        go_wp2_with fail
        refine cn.mono ?_
        rintro e w2 ⟨rfl, hE2, hg2, hR2⟩
        go_wp2_with fail
        refine (fail_any R 0 3 w2 hE2).mono ?_
        rintro e w3 ⟨rfl, hE3, hg3⟩
        go_wp2_with fail
        go_ret
        rw [HS.out]
        exact ⟨rfl, ⟨hE3, fun h => by cases h⟩, gb_trans hg2 hg3⟩
      · rw [if_neg hmost] at HS
        go_enter Try.func38, Try.ntmps38
        go_wp2_with fail
        refine (err_made R 0 w hE).mono ?_
        rintro e w1 ⟨rfl, rfl⟩
        go_wp2_with fail
        refine cn.mono ?_
        rintro e w2 ⟨rfl, hE2, hg2, hR2⟩
        have hR3 := hR2 (by trivial)
        clear hR2 cn
        go_wp2_with fail
        go_ret
        rw [HS.out]
        exact ⟨rfl, ⟨hE2, fun _ => hR3⟩, hg2⟩
    · have her' : (er == 0) = false := by simpa using her
      rw [if_neg her] at HS
      go_enter Try.func38, Try.ntmps38
      go_wp2_with fail
      refine (err_made R 0 w hE).mono ?_
      rintro e w1 ⟨rfl, rfl⟩
      go_wp2_with fail
      refine cn.mono ?_
      rintro e w2 ⟨rfl, hE2, hg2, hR2⟩
      clear hR2 cn
      go_wp2_with fail
      refine (fail_any R 0 er w2 hE2).mono ?_
      rintro e w3 ⟨rfl, hE3, hg3⟩
      go_wp2_with fail
      go_ret
      rw [HS.out]
      exact ⟨rfl, ⟨hE3, fun h => absurd h her⟩, gb_trans hg2 hg3⟩
  · have HS : Hid (numS rest e most = (0, rest, e)) := by show _ = _; simp [numS, he]
    have he' : (e == 0) = false := by simpa using he
    go_enter Try.func38, Try.ntmps38
    go_wp2_with fail
    refine (err_made R e w hE).mono ?_
    rintro en w1 ⟨rfl, rfl⟩
    go_wp2_with fail
    go_ret
    rw [HS.out]
    exact ⟨rfl, ⟨hE, fun h => absurd h he⟩, gb_refl _ _⟩
end Go.Proofs.Ytahdmajppnffeaa
namespace Go.Proofs.Ytahdmajppnffeaa
open Go.RowKit
open Sha Tal
theorem RowAt.none_nil {w : World} {zs : List Int} (h : RowAt w none zs) : zs = [] := by
  rcases h.2.2 with h | ⟨b, off, hx, _⟩
  · exact h
  · cases hx
theorem RowAt.str {w : World} {a : Option Addr} {zs : List Int} (h : RowAt w a zs) (cap : Nat) : (convert 57 9 (.slice a zs.length cap)).run Try.prog w = .ok (.string (strOf zs)) w := row_mine h cap
theorem Mine.str {w : World} {B : Nat} {v : Value} {zs : List Int} (h : Mine w B v zs) (hm : zs.length ≤ maxLen) : (convert 57 9 v).run Try.prog w = .ok (.string (strOf zs)) w := by
  obtain ⟨a, cap, rfl, _, _, hr⟩ := h.rowAt hm
  exact hr.str cap
set_option maxHeartbeats 800000 in
theorem clone_any (a : Option Addr) (cap : Nat) (zs : List Int) (w : World) (h : RowAt w a zs) (hm : zs.length ≤ 549755813888) :
    Calls Try.prog 69 #[.slice a zs.length cap] w fun e w' => ∃ v, e = .returned v ∧ Mine w' w.heap.size v zs ∧ Below w.heap.size w w' := by
  obtain ⟨i0, hi, hz0, hz1, hz2⟩ := info_parts info8
  cases a with
  | none =>
    obtain rfl := h.none_nil
    have hn := fun w => Lib.run_eql_slice_nil (P := Try.prog) w 57 5 none 0 cap 0 0 Try.underlying57
    go_enter Try.func69, Try.ntmps69
    go_wp2
    go_ret
    exact ⟨_, rfl, ⟨World.ownsRow_nil _ _ _ _, by simp⟩, Below.refl _ _⟩
  | some x =>
    have hn := fun w => Lib.run_eql_slice_nil (P := Try.prog) w 57 5 (some x) zs.length cap 0 0 Try.underlying57
    go_enter Try.func69, Try.ntmps69
    go_wp2_with (at_builtin; refine wpList_append_own_src _ rfl _ _ 57 57 rfl w.heap.size 5 i0 (.int .u8 0) 1 1 Try.underlying57 hi hz0 hz1 hz2 rfl _ 0 [] rfl (World.ownsRow_made w #[] 0 (Nat.le_refl _) (by simp) (by simp)) (.slice (some x) zs.length cap) zs.length (zs.map (Value.int .u8)) rfl ((h.below ((Below.refl _ _).alloc (Nat.le_refl _) _)).src cap) ?c1 ?c2 ?c3 ?_)
    case c1 => unfold maxLen; omega
    case c2 => omega
    case c3 => simp
    intro v' w1 hown hgrow
    have hb1 : Below w.heap.size w w1 := ((Below.refl _ _).alloc (Nat.le_refl _) _).grown hgrow (by simp) (fun k hk => by simp [Value.ownBlock] at hk; omega)
    go_wp2
    go_ret
    exact ⟨_, rfl, ⟨by simpa using hown, h.2.1⟩, hb1⟩

set_option maxHeartbeats 800000 in
theorem read_any (a : Option Addr) (cap : Nat) (zs : List Int) (w : World) (h : RowAt w a zs) (hm : zs.length ≤ 549755813888) :
    Calls Try.prog 36 #[.slice a zs.length cap] w fun e w' => ∃ R, e = .returned (.pointer (some ⟨R, 0, none⟩)) ∧ w.heap.size ≤ R ∧ St w' R zs 0 ∧ Below w.heap.size w w' := by
  go_enter Try.func36, Try.ntmps36
  go_wp2_with fail
  refine (clone_any a cap zs w h hm).mono ?_
  rintro e w1 ⟨v, rfl, hmine, hb⟩
  obtain ⟨a', cap', rfl, hc1, hc2, hr⟩ := hmine.rowAt (by unfold maxLen; omega)
  have hblk : ∀ x, a' = some x → x.block < w1.heap.size := fun x hx => (hmine.1.lt x.block (by simp [hx, Value.ownBlock])).2
  have hb2 : Below w1.heap.size w1 (w1.alloc (.cells #[.slice a' zs.length cap', .bool true, .int .i64 0] 123)) := (Below.refl _ _).alloc (Nat.le_refl _) _
  have hSt : St (w1.alloc (.cells #[.slice a' zs.length cap', .bool true, .int .i64 0] 123)) w1.heap.size zs 0 := by
    have cs : ∀ j, (w1.alloc (.cells #[.slice a' zs.length cap', .bool true, .int .i64 0] 123)).cell? ⟨w1.heap.size, j, none⟩ = (#[.slice a' zs.length cap', .bool true, .int .i64 0] : Array Value)[j]? := fun j => World.cell?_alloc_at _ _ _ _ rfl
    have fs : ∀ j, (w1.alloc (.cells #[.slice a' zs.length cap', .bool true, .int .i64 0] 123)).frozen? ⟨w1.heap.size, j, none⟩ = false := fun j => World.frozen?_alloc_at _ _ _ _ rfl
    exact ⟨⟨by simp, ⟨a', zs.length, cap', cs 0⟩, cs 1, cs 2, fs 0, fs 1, fs 2⟩, fun _ => ⟨a', cap', cs 0, hc1, hc2, hr.below hb2, hblk⟩⟩
  go_wp2_with fail
  go_ret
  exact ⟨_, rfl, hb.size, hSt, hb.trans (hb2.mono hb.size)⟩
end Go.Proofs.Ytahdmajppnffeaa
namespace Go.Proofs.Ytahdmajppnffeaa
open Go.RowKit
open Sha Tal
set_option maxHeartbeats 800000 in
theorem next_few (R : Nat) (rest : List Int) (n : Int) (w : World) (h : St w R rest 0) (hn : (rest.length : Int) < n) :
    Calls Try.prog 80 #[.pointer (some ⟨R, 0, none⟩), .int .i64 n] w fun en w' => en = .returned (.slice none 0 0) ∧ St w' R rest 10 ∧ w.grownBy w' (some R) := by
  obtain ⟨hE, hR⟩ := h
  obtain ⟨a, cap, h0, hc, hm, hrow, hne⟩ := hR rfl
  go_enter Try.func80, Try.ntmps80
  go_wp2_with fail
  refine (left_any R a rest.length cap w h0).mono ?_
  rintro en w1 ⟨rfl, rfl⟩
  go_wp2_with fail
  refine (fail_any R 0 10 w1 hE).mono ?_
  rintro en w2 ⟨rfl, hE2, hg2⟩
  go_wp2_with fail
  go_ret
  exact ⟨rfl, ⟨hE2, fun h => by cases h⟩, hg2⟩
set_option maxHeartbeats 800000 in
theorem next_there (R : Nat) (rest : List Int) (n : Int) (w : World) (h : St w R rest 0) (hn0 : 0 ≤ n) (hn : n ≤ (rest.length : Int)) :
    Calls Try.prog 80 #[.pointer (some ⟨R, 0, none⟩), .int .i64 n] w fun en w' => ∃ a cap, en = .returned (.slice a n.toNat cap) ∧ n.toNat ≤ cap ∧ RowAt w' a (rest.take n.toNat) ∧ St w' R (rest.drop n.toNat) 0 ∧ w.grownBy w' (some R) := by
  obtain ⟨hE, hR⟩ := h
  obtain ⟨a, cap, h0, hc, hm, hrow, hlt⟩ := hR rfl
  have hne := lt_ne hlt
  obtain ⟨q, hq⟩ : ∃ q : Nat, n.toNat = q := ⟨_, rfl⟩
  have hqn : (q : Int) = n := by omega
  rw [hq]
  have ct := take_any R a q rest.length cap w h0 hE.2.2.2.2.1 (by omega) hc hm
  rw [hqn] at ct
  have hE2 := hE.set0 (cutA a cap q) (rest.length - q) (cap - q)
  have hg2 := gb_set w R 0 (.slice (cutA a cap q) (rest.length - q) (cap - q))
  have hr2 := (hrow.take q).gb hg2 (.inr hne)
  have h02 : (w.setCell ⟨R, 0, none⟩ (.slice (cutA a cap q) (rest.length - q) (cap - q))).cell? ⟨R, 0, none⟩ = some (.slice (cutA a cap q) (rest.length - q) (cap - q)) := World.cell?_setCell_same _ _ _ h0
  have hRest : Rest (w.setCell ⟨R, 0, none⟩ (.slice (cutA a cap q) (rest.length - q) (cap - q))) R (rest.drop q) :=
    ⟨cutA a cap q, cap - q, by rw [List.length_drop]; exact h02, by rw [List.length_drop]; omega, by omega, (hrow.drop q cap (by omega) hc).gb hg2 (.inr (cutA_ne hne)), cutA_lt hlt⟩
  have hqc : q ≤ cap := by omega
  generalize w.setCell ⟨R, 0, none⟩ (.slice (cutA a cap q) (rest.length - q) (cap - q)) = W2 at *
  have hnn : ¬ ((rest.length : Int) < n) := by omega
  clear hq hqn
  go_enter Try.func80, Try.ntmps80
  go_wp2_with fail
  refine (left_any R a rest.length cap w h0).mono ?_
  rintro en w1 ⟨rfl, rfl⟩
  go_wp2_with fail
  refine ct.mono ?_
  rintro en w2 ⟨rfl, rfl⟩
  go_wp2_with fail
  go_ret
  exact ⟨a, cap, rfl, hqc, hr2, ⟨hE2, fun _ => hRest⟩, hg2⟩
/-- what Text answers (as bytes), what is ahead then, the error then -/
def textS (rest : List Int) (e most : Int) : List Int × List Int × Int :=
  if (numS rest e 9223372036854775807).2.2 = 0 then
    if most < (numS rest e 9223372036854775807).1 then ([], rest, 3)
    else if ((numS rest e 9223372036854775807).2.1.length : Int) < (numS rest e 9223372036854775807).1 then ([], rest, 10)
    else ((numS rest e 9223372036854775807).2.1.take (numS rest e 9223372036854775807).1.toNat, (numS rest e 9223372036854775807).2.1.drop (numS rest e 9223372036854775807).1.toNat, 0)
  else ([], rest, (numS rest e 9223372036854775807).2.2)
theorem St.other {w : World} {R : Nat} {rest : List Int} {e : Int} (h : St w R rest e) (he : e ≠ 0) (rest' : List Int) : St w R rest' e := ⟨h.1, fun h0 => absurd h0 he⟩
set_option maxHeartbeats 1600000 in
theorem text_any (R : Nat) (rest : List Int) (e most : Int) (w : World) (h : St w R rest e) (hpos : 0 ≤ (numS rest e 9223372036854775807).1) :
    Calls Try.prog 46 #[.pointer (some ⟨R, 0, none⟩), .int .i64 most] w fun en w' => en = .returned (.string (strOf (textS rest e most).1)) ∧ St w' R (textS rest e most).2.1 (textS rest e most).2.2 ∧ w.grownBy w' (some R) := by
  have cn := num_any R rest e 9223372036854775807 w h
  have HT : Hid (textS rest e most = if (numS rest e 9223372036854775807).2.2 = 0 then
    (if most < (numS rest e 9223372036854775807).1 then ([], rest, 3)
    else if ((numS rest e 9223372036854775807).2.1.length : Int) < (numS rest e 9223372036854775807).1 then ([], rest, 10)
    else ((numS rest e 9223372036854775807).2.1.take (numS rest e 9223372036854775807).1.toNat, (numS rest e 9223372036854775807).2.1.drop (numS rest e 9223372036854775807).1.toNat, 0))
    else ([], rest, (numS rest e 9223372036854775807).2.2)) := rfl
  generalize (numS rest e 9223372036854775807).1 = n at *
  generalize (numS rest e 9223372036854775807).2.1 = r1 at *
  generalize (numS rest e 9223372036854775807).2.2 = e1 at *
  have hs0 : strOf [] = ⟨#[]⟩ := rfl
  by_cases he : e1 = 0
  · subst he
    rw [if_pos rfl] at HT
    by_cases hmost : most < n
    · rw [if_pos hmost] at HT
      go_enter Try.func46, Try.ntmps46
      go_wp2_with fail
      refine cn.mono ?_
      rintro en w1 ⟨rfl, hS1, hg1⟩
      clear cn
      go_wp2_with fail
      refine (err_made R 0 w1 hS1.1).mono ?_
      rintro en w2 ⟨rfl, rfl⟩
      go_wp2_with fail
      refine (fail_any R 0 3 w2 hS1.1).mono ?_
      rintro en w3 ⟨rfl, hE3, hg3⟩
      go_wp2_with fail
      go_ret
      rw [HT.out]
      exact ⟨rfl, ⟨hE3, fun h => by cases h⟩, gb_trans hg1 hg3⟩
    · rw [if_neg hmost] at HT
      by_cases hlen : (r1.length : Int) < n
      · rw [if_pos hlen] at HT
        have sn : ∀ w : World, (convert 57 9 (.slice none 0 0)).run Try.prog w = .ok (.string ⟨#[]⟩) w := fun w => (nil_row w).str 0
        go_enter Try.func46, Try.ntmps46
        go_wp2_with fail
        refine cn.mono ?_
        rintro en w1 ⟨rfl, hS1, hg1⟩
        clear cn
        go_wp2_with fail
        refine (err_made R 0 w1 hS1.1).mono ?_
        rintro en w2 ⟨rfl, rfl⟩
        go_wp2_with fail
        refine (next_few R r1 n w2 hS1 hlen).mono ?_
        rintro en w3 ⟨rfl, hS3, hg3⟩
        have s3 := sn w3
        go_wp2_with fail
        go_ret
        rw [HT.out]
        exact ⟨rfl, hS3.other (by omega) _, gb_trans hg1 hg3⟩
      · rw [if_neg hlen] at HT
        go_enter Try.func46, Try.ntmps46
        go_wp2_with fail
        refine cn.mono ?_
        rintro en w1 ⟨rfl, hS1, hg1⟩
        clear cn
        go_wp2_with fail
        refine (err_made R 0 w1 hS1.1).mono ?_
        rintro en w2 ⟨rfl, rfl⟩
        go_wp2_with fail
        refine (next_there R r1 n w2 hS1 hpos (by omega)).mono ?_
        rintro en w3 ⟨a, cap, rfl, hca, hra, hS3, hg3⟩
        have s3 := hra.str cap
        rw [List.length_take_of_le (by omega)] at s3
        go_wp2_with fail
        go_ret
        rw [HT.out]
        exact ⟨rfl, hS3, gb_trans hg1 hg3⟩
  · rw [if_neg he] at HT
    have he' : (e1 == 0) = false := by simpa using he
    go_enter Try.func46, Try.ntmps46
    go_wp2_with fail
    refine cn.mono ?_
    rintro en w1 ⟨rfl, hS1, hg1⟩
    clear cn
    go_wp2_with fail
    refine (err_made R e1 w1 hS1.1).mono ?_
    rintro en w2 ⟨rfl, rfl⟩
    go_wp2_with fail
    go_ret
    rw [HT.out]
    exact ⟨rfl, hS1.other he _, hg1⟩
end Go.Proofs.Ytahdmajppnffeaa
namespace Go.Proofs.Ytahdmajppnffeaa
open Go.RowKit
namespace Tal
theorem digs_val (ds : List Int) (hz : ∀ z ∈ ds, 0 ≤ z ∧ z < 256) (hh : ds.head? ≠ some 0) (hv : val ds ≤ 9223372036854775807) : digs (val ds).toNat = ds := by
  have key : ∀ k, k ≤ ds.length → val (ds.take k) ≤ 9223372036854775807 → digs (val (ds.take k)).toNat = ds.take k := by
    intro k
    induction k with
    | zero => intro _ _; simp [val, digs_zero]
    | succ k ih =>
      intro hk hle
      have hlt : k < ds.length := by omega
      have e := val_take ds k hlt
      have hb := val_bound (ds.take k) (fun z h => hz z (List.mem_of_mem_take h))
      have hd : 0 ≤ ds.getD k 0 ∧ ds.getD k 0 < 256 := by
        rw [List.getD_eq_getElem?_getD, List.getElem?_eq_getElem hlt]; exact hz _ (List.getElem_mem hlt)
      have hi := ih (by omega) (by omega)
      have hpos : 0 < val (ds.take (k + 1)) := by
        by_cases h0 : k = 0
        · subst h0
          have : val (ds.take 0) = 0 := by simp [val]
          rw [e, this]
          cases ds with
          | nil => simp at hlt
          | cons x tl => simp at hh hd ⊢; omega
        · have : 0 < val (ds.take k) := by
            rcases Int.lt_or_eq_of_le hb.1 with h | h
            · exact h
            · rw [← h] at hi
              have hl := congrArg List.length hi
              rw [List.length_take_of_le (by omega)] at hl
              have : (digs (0 : Int).toNat).length = 0 := by decide
              omega
          omega
      have ht : ds.take (k + 1) = ds.take k ++ [ds.getD k 0] := by
        rw [List.take_succ_eq_append_getElem hlt, List.getD_eq_getElem?_getD, List.getElem?_eq_getElem hlt]; rfl
      have e1 : (val (ds.take (k + 1))).toNat / 256 = (val (ds.take k)).toNat := by omega
      have e2 : ((((val (ds.take (k + 1))).toNat % 256 : Nat)) : Int) = ds.getD k 0 := by omega
      rw [digs_succ _ (by omega) (by omega), e1, e2, hi, ht]
  have := key ds.length (Nat.le_refl _)
  rw [List.take_length] at this
  exact this hv
/-- what was read as a number, put again, is what was read -/
theorem numR_form (zs : List Int) (hz : ∀ z ∈ zs, 0 ≤ z ∧ z < 256) (h : (numR zs).2.2 = 0) :
    putL (numR zs).1 = zs.take (numR zs).2.1 ∧ (numR zs).2.1 ≤ zs.length ∧ 0 ≤ (numR zs).1 ∧ (numR zs).1 ≤ 9223372036854775807 := by
  cases zs with
  | nil => simp [numR] at h
  | cons k tl =>
    have hk := hz k (by simp)
    by_cases h8 : 8 < k
    · simp [numR, h8] at h
    · by_cases hl : (tl.length : Int) < k
      · simp [numR, h8, hl] at h
      · by_cases hv : (valR (tl.take k.toNat)).2 = 0
        · have e : numR (k :: tl) = ((valR (tl.take k.toNat)).1, 1 + k.toNat, 0) := by simp only [numR, if_neg h8, if_neg hl, if_pos hv]
          rw [e]
          have hds : ∀ z ∈ tl.take k.toNat, 0 ≤ z ∧ z < 256 := fun z h => hz z (by simp [List.mem_of_mem_take h])
          have hb := val_bound _ hds
          have hnot : ¬ ((tl.take k.toNat).head? = some 0 ∨ 9223372036854775807 < val (tl.take k.toNat)) := by
            intro hc; unfold valR at hv; rw [if_pos hc] at hv; cases hv
          have e1 : (valR (tl.take k.toNat)).1 = val (tl.take k.toNat) := by unfold valR; rw [if_neg hnot]
          have hlen : (tl.take k.toNat).length = k.toNat := List.length_take_of_le (by omega)
          have hd := digs_val (tl.take k.toNat) hds (fun h => hnot (Or.inl h)) (by omega)
          have hw : (wid (val (tl.take k.toNat)).toNat : Int) = k := by
            rw [← digs_length, hd, hlen]; omega
          simp only [e1]
          refine ⟨?_, by simp; omega, hb.1, by omega⟩
          unfold putL
          rw [if_neg (by omega), numB, hd, hw, Nat.add_comm]
          rfl
        · simp only [numR, if_neg h8, if_neg hl, if_neg hv] at h
          exact absurd h hv
end Tal
open Sha Tal
end Go.Proofs.Ytahdmajppnffeaa
namespace Go.Proofs.Ytahdmajppnffeaa
open Go.RowKit
open Sha Tal
variable {B : Nat}
/-- the document's reader: its bytes, its place, its error -/
def Rf (B : Nat) (w : World) (X : Nat) (zs : List Int) (p : Nat) (e : Int) : Prop :=
  X < w.heap.size ∧ (∃ a cap, w.cell? ⟨X, 0, none⟩ = some (.slice a zs.length cap) ∧ zs.length ≤ cap ∧ cap ≤ maxLen ∧ RowAt w a zs ∧ ∀ x, a = some x → B ≤ x.block ∧ x.block < X) ∧
  w.cell? ⟨X, 1, none⟩ = some (.int .i64 (p : Int)) ∧ w.cell? ⟨X, 2, none⟩ = some (.int .i64 e) ∧ w.frozen? ⟨X, 0, none⟩ = false ∧ w.frozen? ⟨X, 1, none⟩ = false ∧ w.frozen? ⟨X, 2, none⟩ = false ∧ p ≤ zs.length ∧ zs.length ≤ 40000
theorem suc_ne {a : Option Addr} {X : Nat} (h : ∀ x, a = some x → B ≤ x.block ∧ x.block < X) : ∀ x, a = some x → x.block ≠ X := fun x hx => Nat.ne_of_lt (h x hx).2
namespace Tal
end Tal
theorem Rf.rest {w : World} {X : Nat} {zs : List Int} {p : Nat} {e : Int} (h : Rf B w X zs p e) : ∃ a cap, w.cell? ⟨X, 0, none⟩ = some (.slice a zs.length cap) ∧ zs.length ≤ cap ∧ cap ≤ maxLen ∧ RowAt w (cutA a cap p) (zs.drop p) := by
  obtain ⟨hX, ⟨a, cap, h0, hc, hm, hr, hne⟩, h1, h2, f0, f1, f2, hp, hl⟩ := h
  exact ⟨a, cap, h0, hc, hm, hr.drop p cap hp hc⟩
end Go.Proofs.Ytahdmajppnffeaa
namespace Go.Proofs.Ytahdmajppnffeaa
open Go.RowKit
open Sha Tal
variable {B : Nat}
theorem Rf.set2 {w : World} {X : Nat} {zs : List Int} {p : Nat} {e : Int} (h : Rf B w X zs p e) (e' : Int) : Rf B (w.setCell ⟨X, 2, none⟩ (.int .i64 e')) X zs p e' := by
  obtain ⟨hX, ⟨a, cap, h0, hc, hm, hr, hne⟩, h1, h2, f0, f1, f2, hp, hl⟩ := h
  exact ⟨by simpa [World.setCell] using hX, ⟨a, cap, (World.cell?_setCell_other _ _ _ _ (by simp)).trans h0, hc, hm, hr.gb (gb_set w X 2 _) (.inr (suc_ne hne)), hne⟩, (World.cell?_setCell_other _ _ _ _ (by simp)).trans h1, World.cell?_setCell_same _ _ _ h2,
    (World.frozen?_setCell _ _ _ _).trans f0, (World.frozen?_setCell _ _ _ _).trans f1, (World.frozen?_setCell _ _ _ _).trans f2, hp, hl⟩
/-- the document's reader with this ahead of it and this error -/
def RSt (B : Nat) (w : World) (X : Nat) (rest : List Int) (e : Int) : Prop := ∃ zs p, Rf B w X zs p e ∧ (e = 0 → zs.drop p = rest)
theorem RSt.other {w : World} {X : Nat} {rest : List Int} {e : Int} (h : RSt B w X rest e) (he : e ≠ 0) (rest' : List Int) : RSt B w X rest' e := by
  obtain ⟨zs, p, h1, _⟩ := h
  exact ⟨zs, p, h1, fun h0 => absurd h0 he⟩
end Go.Proofs.Ytahdmajppnffeaa
namespace Go.Proofs.Ytahdmajppnffeaa
open Go.RowKit
open Sha Tal
variable {B : Nat}
/-- what Raw answers, what is ahead then, the error then -/
def rawS (rest : List Int) (e n : Int) : List Int × List Int × Int :=
  if e = 0 then
    if n < 0 then ([], rest, 2)
    else if (rest.length : Int) < n then ([], rest, 10)
    else (rest.take n.toNat, rest.drop n.toNat, 0)
  else ([], rest, e)
theorem cell_block {w w' : World} {b j : Nat} (h : w'.heap[b]? = w.heap[b]?) : w'.cell? ⟨b, j, none⟩ = w.cell? ⟨b, j, none⟩ ∧ w'.frozen? ⟨b, j, none⟩ = w.frozen? ⟨b, j, none⟩ := by
  constructor
  · simp only [World.cell?, h]
  · simp only [World.frozen?, h]
theorem RdE.below {w w' : World} {R : Nat} {e : Int} (h : RdE w R e) (hb : w'.heap[R]? = w.heap[R]?) (hs : w.heap.size ≤ w'.heap.size) : RdE w' R e := by
  obtain ⟨hR, ⟨a, n, c, h0⟩, h1, h2, f0, f1, f2⟩ := h
  have hc := fun j => (cell_block (j := j) hb)
  exact ⟨Nat.lt_of_lt_of_le hR hs, ⟨a, n, c, (hc 0).1.trans h0⟩, (hc 1).1.trans h1, (hc 2).1.trans h2, (hc 0).2.trans f0, (hc 1).2.trans f1, (hc 2).2.trans f2⟩
theorem St.below {w w' : World} {R : Nat} {rest : List Int} {e : Int} (h : St w R rest e) (hb : Below w.heap.size w w') : St w' R rest e := by
  have hR := h.1.1
  refine ⟨h.1.below (hb.block R hR) hb.size, fun he => ?_⟩
  obtain ⟨a, cap, h0, hc, hm, hr, hne⟩ := h.2 he
  exact ⟨a, cap, (cell_block (hb.block R hR)).1.trans h0, hc, hm, hr.below hb, hne⟩
theorem Rf.below {w w' : World} {X : Nat} {zs : List Int} {p : Nat} {e : Int} (h : Rf B w X zs p e) (hb : Below w.heap.size w w') : Rf B w' X zs p e := by
  obtain ⟨hX, ⟨a, cap, h0, hc, hm, hr, hne⟩, h1, h2, f0, f1, f2, hp, hl⟩ := h
  have hk := fun j => (cell_block (j := j) (hb.block X hX))
  exact ⟨Nat.lt_of_lt_of_le hX hb.size, ⟨a, cap, (hk 0).1.trans h0, hc, hm, hr.below hb, hne⟩, (hk 1).1.trans h1, (hk 2).1.trans h2, (hk 0).2.trans f0, (hk 1).2.trans f1, (hk 2).2.trans f2, hp, hl⟩
theorem RSt.below {w w' : World} {X : Nat} {rest : List Int} {e : Int} (h : RSt B w X rest e) (hb : Below w.heap.size w w') : RSt B w' X rest e := by
  obtain ⟨zs, p, h1, h2⟩ := h
  exact ⟨zs, p, h1.below hb, h2⟩
theorem Mine.nil (w : World) (B : Nat) : Mine w B (.slice none 0 0) [] := ⟨World.ownsRow_nil _ _ _ _, by simp⟩
theorem Mine.mono' {w : World} {B B' : Nat} {v : Value} {zs : List Int} (h : Mine w B v zs) (hb : B' ≤ B) : Mine w B' v zs := by
  refine ⟨⟨h.1.1, ?_⟩, h.2⟩
  rcases h.1.2 with h | ⟨g, cap, cur, hv, hg, r⟩
  · exact .inl h
  · exact .inr ⟨g, cap, cur, hv, Nat.le_trans hb hg, r⟩
end Go.Proofs.Ytahdmajppnffeaa
