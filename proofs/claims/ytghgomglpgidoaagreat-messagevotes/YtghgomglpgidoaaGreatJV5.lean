/- certs and messages without lists against themselves; fieldsMay and Good at messages without lists; Good of a message that is its own bare one; digests' parts: what the contracts of digests are told; Encode -/
import Derived.Test.YtghgomglpgidoaaGreatJV4
import Derived.Test.YtghgomglpgidoaaGreatJV1
import Derived.Lib.SlBytesConst
import Derived.WalkLawsBesides
import Derived.SliceStrings
namespace Go.Proofs.YtghgomglpgidoaaGreat
open Go.RowKit
open Sha Tal
theorem wpList_load_g {P : Program} {ops : Array Oper} {rest : List Oper} {op : Oper} {a : Act} {w : World} {Q : Exit → Act → World → Prop} (hgd : Region.wanted op (yielded ops a.tmps) = true) (ty : TypeId) (x : Operand) (ho : op.op = .load ty x)
    (b o : Nat) (hx : a.eval x = .pointer (some ⟨b, o, none⟩)) (cs : List Value) (d : TypeDesc) (hc : w.rangeAt b o cs)
    (hu : P.underlying ty = some d) (hd : d.isRow = true) (hi : (P.info? ty).map (·.size) = some cs.length)
    (h : wpList P ops Q rest (a.put op.dst (.agg cs.toArray)) w) : wpList P ops Q (op :: rest) a w :=
  wpList_step fun _ hK => by rw [if_pos hgd]; exact wp_load_mid ty x ho b o hx cs d hc hu hd hi (hK _ _ h)
theorem iszC : (Tryz.prog.info? 35).map (·.size) = some 37 := by kernel_rfl
def cert0 (x : Vt) : List Value := x.cells ++ [.slice none 0 0]
theorem two_boxes (q : List Value) (t : TypeId) (w : World) : ((w.alloc (.cells q.toArray t)).alloc (.cells q.toArray t)).rangeAt w.heap.size 0 q ∧ ((w.alloc (.cells q.toArray t)).alloc (.cells q.toArray t)).rangeAt (w.heap.size + 1) 0 q ∧ Below w.heap.size w ((w.alloc (.cells q.toArray t)).alloc (.cells q.toArray t)) ∧ w.heap.size + 2 ≤ ((w.alloc (.cells q.toArray t)).alloc (.cells q.toArray t)).heap.size := by
  have hB : Below w.heap.size w (w.alloc (.cells q.toArray t)) := (Below.refl _ _).alloc (Nat.le_refl _) _
  have hB2 : Below (w.alloc (.cells q.toArray t)).heap.size (w.alloc (.cells q.toArray t)) ((w.alloc (.cells q.toArray t)).alloc (.cells q.toArray t)) := (Below.refl _ _).alloc (Nat.le_refl _) _
  have h1 := range_new w q.toArray t
  have h2 := range_new (w.alloc (.cells q.toArray t)) q.toArray t
  rw [World.size_alloc] at h2
  exact ⟨range_below (by simpa using h1) hB2 (by simp), by simpa using h2, hB.trans (hB2.mono (by simp)), by simp⟩
set_option maxRecDepth 100000 in
set_option maxHeartbeats 2000000 in
theorem scert0 (x : Vt) (hx : x.ok) (w : World) : Calls Tryz.prog 37 #[.agg (cert0 x).toArray, .agg (cert0 x).toArray] w fun e w' => e = .returned (.bool true) ∧ Below w.heap.size w w' := by
  obtain ⟨hA, hA', hB, hs⟩ := two_boxes (cert0 x) 35 w
  have r1 := range_left hA
  have r1' := range_left hA'
  have c1 := range_right hA 0 _ rfl
  have c1' := range_right hA' 0 _ rfl
  rw [hx.len] at c1 c1'
  simp only [Nat.zero_add, Nat.add_zero] at c1 c1'
  have ix : (Tryz.prog.info? 28).map (·.size) = some x.cells.length := by rw [hx.len]; exact iszV
  have hq := eqInV x x hx.dl hx.dl
  rw [vtB_self] at hq
  clear hA hA' hs hx
  generalize cert0 x = q at *
  generalize x.cells = u at *
  go_enter Tryz.func37, Tryz.ntmps37
  go_upto_region 1 with fail
  go_name_world w1 hw1
  rw [show (w.alloc (.cells q.toArray 35)).alloc (.cells q.toArray 35) = w1 from hw1] at r1 r1' c1 c1' hB
  clear hw1
  go_wp2_with (first | (refine wpList_load_mid rfl 28 _ rfl _ _ rfl u _ r1 Tryz.underlying28 rfl ix ?_) | (refine wpList_load_mid rfl 28 _ rfl _ _ rfl u _ r1' Tryz.underlying28 rfl ix ?_) | (go_at_call 38; refine (eqS0 _).mono ?_; rintro e1 w2 ⟨rfl, hx⟩; obtain rfl := hx.symm; clear hx))
  go_ret
  exact ⟨rfl, hB⟩
set_option maxRecDepth 100000 in
set_option maxHeartbeats 2000000 in
theorem xscert0 (x : Vt) (hx : x.ok) (w : World) : Calls Tryz.prog 42 #[.agg (cert0 x).toArray, .agg (cert0 x).toArray] w fun e w' => e = .returned (.bool true) ∧ Below w.heap.size w w' := by
  obtain ⟨hA, hA', hB, hs⟩ := two_boxes (cert0 x) 35 w
  have r1 := range_left hA
  have r1' := range_left hA'
  have c1 := range_right hA 0 _ rfl
  have c1' := range_right hA' 0 _ rfl
  rw [hx.len] at c1 c1'
  simp only [Nat.zero_add, Nat.add_zero] at c1 c1'
  have ix : (Tryz.prog.info? 28).map (·.size) = some x.cells.length := by rw [hx.len]; exact iszV
  have hq := eqInV x x hx.dl hx.dl
  rw [vtB_self] at hq
  clear hA hA' hs hx
  generalize cert0 x = q at *
  generalize x.cells = u at *
  go_enter Tryz.func42, Tryz.ntmps42
  go_upto_region 1 with fail
  go_name_world w1 hw1
  rw [show (w.alloc (.cells q.toArray 35)).alloc (.cells q.toArray 35) = w1 from hw1] at r1 r1' c1 c1' hB
  clear hw1
  go_wp2_with (first | (refine wpList_load_mid rfl 28 _ rfl _ _ rfl u _ r1 Tryz.underlying28 rfl ix ?_) | (refine wpList_load_mid rfl 28 _ rfl _ _ rfl u _ r1' Tryz.underlying28 rfl ix ?_) | (go_at_call 43; refine (xsS0 _).mono ?_; rintro e1 w2 ⟨rfl, hx⟩; obtain rfl := hx.symm; clear hx))
  go_ret
  exact ⟨rfl, hB⟩
set_option maxRecDepth 100000 in
set_option maxHeartbeats 4000000 in
theorem msame0 (k e s : Int) (x : Vt) (d : List Int) (hx : x.ok) (hd : d.length = 32) (hdb : ∀ z ∈ d, 0 ≤ z ∧ z < 256) (w : World) : Calls Tryz.prog 12 #[.agg (Ms.plain k e s x d).cells.toArray, .agg (Ms.plain k e s x d).cells.toArray] w fun e w' => e = .returned (.bool true) ∧ Below w.heap.size w w' := by
  have hm := Ms.plain_ok k e s hx hd hdb
  obtain ⟨hA, hA', hB, hs⟩ := two_boxes (Ms.plain k e s x d).cells 37 w
  obtain ⟨W, hW⟩ : ∃ W, Hid ((w.alloc (.cells (Ms.plain k e s x d).cells.toArray 37)).alloc (.cells (Ms.plain k e s x d).cells.toArray 37) = W) := ⟨_, hide rfl⟩
  rw [hW.out] at hA hA' hB hs
  have M := hm.at hA
  have M' := hm.at hA'
  have ix : (Tryz.prog.info? 28).map (·.size) = some x.cells.length := by rw [hx.len]; exact iszV
  have id : (Tryz.prog.info? 26).map (·.size) = some (v8 d).length := by rw [v8_length, hd]; exact iszD
  have ic : (Tryz.prog.info? 35).map (·.size) = some (cert0 Vt.zero).length := by rw [show (cert0 Vt.zero).length = 37 from rfl]; exact iszC
  have hq := eqInV x x hx.dl hx.dl
  have hq2 := eqInD d d hd hd
  rw [vtB_self] at hq
  rw [show (d == d) = true by simp] at hq2
  have cC := fun w0 => scert0 Vt.zero Vt.zero_ok w0
  have cK : W.cell? ⟨w.heap.size, 0, none⟩ = some (.int .i64 k) := M.k
  have cE : W.cell? ⟨w.heap.size, 1, none⟩ = some (.int .i64 e) := M.e
  have cL : W.cell? ⟨w.heap.size, 2, none⟩ = some (.int .i64 0) := M.l
  have cV : W.cell? ⟨w.heap.size, 3, none⟩ = some (.int .i64 0) := M.v
  have cS : W.cell? ⟨w.heap.size, 4, none⟩ = some (.int .i64 s) := M.s
  have cQ : W.cell? ⟨w.heap.size, 5, none⟩ = some (.bool false) := M.q
  have cR : W.cell? ⟨w.heap.size, 6, none⟩ = some (.slice none 0 0) := M.rs
  have c1 : W.cell? ⟨w.heap.size, 43, none⟩ = some (.int .i64 0) := M.ce
  have c2 : W.cell? ⟨w.heap.size, 44, none⟩ = some (.int .i64 0) := M.cl
  have c3 : W.cell? ⟨w.heap.size, 45, none⟩ = some (.int .i64 0) := M.cv
  have cH : W.cell? ⟨w.heap.size, 46, none⟩ = some (.slice none 0 0) := M.he
  have cN : W.cell? ⟨w.heap.size, 47, none⟩ = some (.slice none 0 0) := M.ne
  have cT : W.cell? ⟨w.heap.size, 117, none⟩ = some (.string ⟨#[]⟩) := M.st
  have cG : W.cell? ⟨w.heap.size, 118, none⟩ = some (.slice none 0 0) := M.sg
  have rV : W.rangeAt (w.heap.size) 7 x.cells := M.vt
  have rD : W.rangeAt (w.heap.size) 48 (v8 d) := M.d
  have rC : W.rangeAt (w.heap.size) 80 (cert0 Vt.zero) := M.ct
  have cK' : W.cell? ⟨w.heap.size + 1, 0, none⟩ = some (.int .i64 k) := M'.k
  have cE' : W.cell? ⟨w.heap.size + 1, 1, none⟩ = some (.int .i64 e) := M'.e
  have cL' : W.cell? ⟨w.heap.size + 1, 2, none⟩ = some (.int .i64 0) := M'.l
  have cV' : W.cell? ⟨w.heap.size + 1, 3, none⟩ = some (.int .i64 0) := M'.v
  have cS' : W.cell? ⟨w.heap.size + 1, 4, none⟩ = some (.int .i64 s) := M'.s
  have cQ' : W.cell? ⟨w.heap.size + 1, 5, none⟩ = some (.bool false) := M'.q
  have cR' : W.cell? ⟨w.heap.size + 1, 6, none⟩ = some (.slice none 0 0) := M'.rs
  have c1' : W.cell? ⟨w.heap.size + 1, 43, none⟩ = some (.int .i64 0) := M'.ce
  have c2' : W.cell? ⟨w.heap.size + 1, 44, none⟩ = some (.int .i64 0) := M'.cl
  have c3' : W.cell? ⟨w.heap.size + 1, 45, none⟩ = some (.int .i64 0) := M'.cv
  have cH' : W.cell? ⟨w.heap.size + 1, 46, none⟩ = some (.slice none 0 0) := M'.he
  have cN' : W.cell? ⟨w.heap.size + 1, 47, none⟩ = some (.slice none 0 0) := M'.ne
  have cT' : W.cell? ⟨w.heap.size + 1, 117, none⟩ = some (.string ⟨#[]⟩) := M'.st
  have cG' : W.cell? ⟨w.heap.size + 1, 118, none⟩ = some (.slice none 0 0) := M'.sg
  have rV' : W.rangeAt (w.heap.size + 1) 7 x.cells := M'.vt
  have rD' : W.rangeAt (w.heap.size + 1) 48 (v8 d) := M'.d
  have rC' : W.rangeAt (w.heap.size + 1) 80 (cert0 Vt.zero) := M'.ct
  clear hA hA' hm M M' hx hd hdb
  generalize (Ms.plain k e s x d).cells = q at *
  generalize x.cells = u at *
  generalize v8 d = ud at *
  generalize cert0 Vt.zero = uc at *
  go_enter Tryz.func12, Tryz.ntmps12
  go_upto_region 1 with fail
  go_name_world w1 hw1
  obtain rfl : W = w1 := hW.out.symm.trans hw1
  clear hw1 hW
  go_upto_region 3 with fail
  try simp only [Act.put]
  refine wp_region_list ?_
  refine wpList_step fun K hK => ?_
  go_simp
  refine hK _ _ ?_
  clear hK K
  refine wpList_load_mid rfl 28 _ rfl _ _ rfl u _ rV Tryz.underlying28 rfl ix ?_
  refine wpList_step fun K hK => ?_
  go_simp
  refine hK _ _ ?_
  clear hK K
  refine wpList_load_mid rfl 28 _ rfl _ _ rfl u _ rV' Tryz.underlying28 rfl ix ?_
  refine wpList_step fun K hK => ?_
  go_simp
  try rw [hq]
  try go_simp
  refine hK _ _ ?_
  clear hK K
  refine wpList_step fun K hK => ?_
  go_simp
  refine hK _ _ ?_
  clear hK K
  refine wpList_step fun K hK => ?_
  go_simp
  refine hK _ _ ?_
  clear hK K
  refine wpList_load_g (by rfl) 26 _ rfl _ _ rfl ud _ rD Tryz.underlying26 rfl id ?_
  refine wpList_step fun K hK => ?_
  go_simp
  refine hK _ _ ?_
  clear hK K
  refine wpList_load_g (by rfl) 26 _ rfl _ _ rfl ud _ rD' Tryz.underlying26 rfl id ?_
  refine wpList_step fun K hK => ?_
  go_simp
  try rw [hq2]
  try go_simp
  refine hK _ _ ?_
  clear hK K
  refine wpList_step fun K hK => ?_
  go_simp
  refine hK _ _ ?_
  clear hK K
  refine wpList_step fun K hK => ?_
  go_simp
  refine hK _ _ ?_
  clear hK K
  refine wpList_step fun K hK => ?_
  go_simp
  refine hK _ _ ?_
  clear hK K
  refine wpList_step fun K hK => ?_
  go_simp
  refine hK _ _ ?_
  clear hK K
  refine wpList_step fun K hK => ?_
  go_simp
  refine hK _ _ ?_
  clear hK K
  refine wpList_step fun K hK => ?_
  go_simp
  refine hK _ _ ?_
  clear hK K
  refine wpList_step fun K hK => ?_
  go_simp
  refine hK _ _ ?_
  clear hK K
  refine wpList_step fun K hK => ?_
  go_simp
  refine hK _ _ ?_
  clear hK K
  refine wpList_step fun K hK => ?_
  go_simp
  refine hK _ _ ?_
  clear hK K
  go_upto_region 5 with fail
  clear cK cE cL cV cS cK' cE' cL' cV' cS' rV rV' rD rD' cT cT' hq hq2
  go_wp2_with fail
  refine (bsame0 false _).mono ?_
  rintro e2 w2 ⟨rfl, hb2⟩
  have up := fun i v (h : W.cell? ⟨w.heap.size, i, none⟩ = some v) => (hb2.cell (p := ⟨w.heap.size, i, none⟩) (show w.heap.size < W.heap.size by omega)).trans h
  replace c1 := up _ _ c1
  replace c2 := up _ _ c2
  replace c3 := up _ _ c3
  replace cH := up _ _ cH
  replace cN := up _ _ cN
  replace cG := up _ _ cG
  replace rC := range_below rC hb2 (by omega)
  clear up
  have up' := fun i v (h : W.cell? ⟨w.heap.size + 1, i, none⟩ = some v) => (hb2.cell (p := ⟨w.heap.size + 1, i, none⟩) (show w.heap.size + 1 < W.heap.size by omega)).trans h
  replace c1' := up' _ _ c1'
  replace c2' := up' _ _ c2'
  replace c3' := up' _ _ c3'
  replace cH' := up' _ _ cH'
  replace cN' := up' _ _ cN'
  replace cG' := up' _ _ cG'
  replace rC' := range_below rC' hb2 (by omega)
  clear up'
  have hs2 := Nat.le_trans hs hb2.size
  have hB2 := hB.trans (hb2.mono (by omega))
  clear cQ cR cQ' cR' hb2 hs hB
  go_wp2_with fail
  refine (schg0 _).mono ?_
  rintro e3 w3 ⟨rfl, hb3⟩
  have up := fun i v (h : w2.cell? ⟨w.heap.size, i, none⟩ = some v) => (hb3.cell (p := ⟨w.heap.size, i, none⟩) (show w.heap.size < w2.heap.size by omega)).trans h
  replace cN := up _ _ cN
  replace cG := up _ _ cG
  replace rC := range_below rC hb3 (by omega)
  clear up
  have up' := fun i v (h : w2.cell? ⟨w.heap.size + 1, i, none⟩ = some v) => (hb3.cell (p := ⟨w.heap.size + 1, i, none⟩) (show w.heap.size + 1 < w2.heap.size by omega)).trans h
  replace cN' := up' _ _ cN'
  replace cG' := up' _ _ cG'
  replace rC' := range_below rC' hb3 (by omega)
  clear up'
  have hs3 := Nat.le_trans hs2 hb3.size
  have hB3 := hB2.trans (hb3.mono (by omega))
  clear c1 c2 c3 cH c1' c2' c3' cH' hb3 hs2 hB2
  go_wp2_with fail
  refine (eqE0 _).mono ?_
  rintro e4 w4 ⟨rfl, hx⟩
  obtain rfl := hx.symm
  clear hx cN cN'
  go_wp2_with (first | (refine wpList_load_g (by rfl) 35 _ rfl _ _ rfl uc _ rC Tryz.underlying35 rfl ic ?_) | (refine wpList_load_g (by rfl) 35 _ rfl _ _ rfl uc _ rC' Tryz.underlying35 rfl ic ?_))
  refine (cC _).mono ?_
  rintro e5 w5 ⟨rfl, hb5⟩
  have up := fun i v (h : w3.cell? ⟨w.heap.size, i, none⟩ = some v) => (hb5.cell (p := ⟨w.heap.size, i, none⟩) (show w.heap.size < w3.heap.size by omega)).trans h
  replace cG := up _ _ cG
  clear up
  have up' := fun i v (h : w3.cell? ⟨w.heap.size + 1, i, none⟩ = some v) => (hb5.cell (p := ⟨w.heap.size + 1, i, none⟩) (show w.heap.size + 1 < w3.heap.size by omega)).trans h
  replace cG' := up' _ _ cG'
  clear up'
  have hB5 := hB3.trans (hb5.mono (by omega))
  clear rC rC' hb5 hs3 hB3 cC
  go_wp2_with fail
  refine (eqS0 _).mono ?_
  rintro e6 w6 ⟨rfl, hx⟩
  obtain rfl := hx.symm
  clear hx cG cG'
  go_wp2_with fail
  go_ret
  exact ⟨rfl, hB5⟩
theorem iszH4 : (Tryz.prog.info? 31).map (·.size) = some 4 := by kernel_rfl
theorem one4 : (#[Value.int .i64 0, .int .i64 0, .int .i64 0, .slice none 0 0] : Array Value).all (·.oneCell') = true := by simp [Value.oneCell']
set_option maxRecDepth 100000 in
set_option maxHeartbeats 4000000 in
theorem xsame0 (k e s : Int) (x : Vt) (d : List Int) (hx : x.ok) (hd : d.length = 32) (hdb : ∀ z ∈ d, 0 ≤ z ∧ z < 256) (w : World) : Calls Tryz.prog 13 #[.agg (Ms.plain k e s x d).cells.toArray, .agg (Ms.plain k e s x d).cells.toArray] w fun e w' => e = .returned (.bool true) ∧ Below w.heap.size w w' := by
  have hm := Ms.plain_ok k e s hx hd hdb
  obtain ⟨hA, hA', hB, hs⟩ := two_boxes (Ms.plain k e s x d).cells 37 w
  obtain ⟨W, hW⟩ : ∃ W, Hid ((w.alloc (.cells (Ms.plain k e s x d).cells.toArray 37)).alloc (.cells (Ms.plain k e s x d).cells.toArray 37) = W) := ⟨_, hide rfl⟩
  rw [hW.out] at hA hA' hB hs
  have M := hm.at hA
  have M' := hm.at hA'
  have ix : (Tryz.prog.info? 28).map (·.size) = some x.cells.length := by rw [hx.len]; exact iszV
  have id : (Tryz.prog.info? 26).map (·.size) = some (v8 d).length := by rw [v8_length, hd]; exact iszD
  have ic : (Tryz.prog.info? 35).map (·.size) = some (cert0 Vt.zero).length := by rw [show (cert0 Vt.zero).length = 37 from rfl]; exact iszC
  have hq := eqInV x x hx.dl hx.dl
  have hq2 := eqInD d d hd hd
  rw [vtB_self] at hq
  rw [show (d == d) = true by simp] at hq2
  have cC := fun w0 => xscert0 Vt.zero Vt.zero_ok w0
  have cK : W.cell? ⟨w.heap.size, 0, none⟩ = some (.int .i64 k) := M.k
  have cE : W.cell? ⟨w.heap.size, 1, none⟩ = some (.int .i64 e) := M.e
  have cL : W.cell? ⟨w.heap.size, 2, none⟩ = some (.int .i64 0) := M.l
  have cV : W.cell? ⟨w.heap.size, 3, none⟩ = some (.int .i64 0) := M.v
  have cS : W.cell? ⟨w.heap.size, 4, none⟩ = some (.int .i64 s) := M.s
  have cQ : W.cell? ⟨w.heap.size, 5, none⟩ = some (.bool false) := M.q
  have cR : W.cell? ⟨w.heap.size, 6, none⟩ = some (.slice none 0 0) := M.rs
  have c1 : W.cell? ⟨w.heap.size, 43, none⟩ = some (.int .i64 0) := M.ce
  have c2 : W.cell? ⟨w.heap.size, 44, none⟩ = some (.int .i64 0) := M.cl
  have c3 : W.cell? ⟨w.heap.size, 45, none⟩ = some (.int .i64 0) := M.cv
  have cH : W.cell? ⟨w.heap.size, 46, none⟩ = some (.slice none 0 0) := M.he
  have cN : W.cell? ⟨w.heap.size, 47, none⟩ = some (.slice none 0 0) := M.ne
  have cT : W.cell? ⟨w.heap.size, 117, none⟩ = some (.string ⟨#[]⟩) := M.st
  have cG : W.cell? ⟨w.heap.size, 118, none⟩ = some (.slice none 0 0) := M.sg
  have rV : W.rangeAt (w.heap.size) 7 x.cells := M.vt
  have rD : W.rangeAt (w.heap.size) 48 (v8 d) := M.d
  have rC : W.rangeAt (w.heap.size) 80 (cert0 Vt.zero) := M.ct
  have cK' : W.cell? ⟨w.heap.size + 1, 0, none⟩ = some (.int .i64 k) := M'.k
  have cE' : W.cell? ⟨w.heap.size + 1, 1, none⟩ = some (.int .i64 e) := M'.e
  have cL' : W.cell? ⟨w.heap.size + 1, 2, none⟩ = some (.int .i64 0) := M'.l
  have cV' : W.cell? ⟨w.heap.size + 1, 3, none⟩ = some (.int .i64 0) := M'.v
  have cS' : W.cell? ⟨w.heap.size + 1, 4, none⟩ = some (.int .i64 s) := M'.s
  have cQ' : W.cell? ⟨w.heap.size + 1, 5, none⟩ = some (.bool false) := M'.q
  have cR' : W.cell? ⟨w.heap.size + 1, 6, none⟩ = some (.slice none 0 0) := M'.rs
  have c1' : W.cell? ⟨w.heap.size + 1, 43, none⟩ = some (.int .i64 0) := M'.ce
  have c2' : W.cell? ⟨w.heap.size + 1, 44, none⟩ = some (.int .i64 0) := M'.cl
  have c3' : W.cell? ⟨w.heap.size + 1, 45, none⟩ = some (.int .i64 0) := M'.cv
  have cH' : W.cell? ⟨w.heap.size + 1, 46, none⟩ = some (.slice none 0 0) := M'.he
  have cN' : W.cell? ⟨w.heap.size + 1, 47, none⟩ = some (.slice none 0 0) := M'.ne
  have cT' : W.cell? ⟨w.heap.size + 1, 117, none⟩ = some (.string ⟨#[]⟩) := M'.st
  have cG' : W.cell? ⟨w.heap.size + 1, 118, none⟩ = some (.slice none 0 0) := M'.sg
  have rV' : W.rangeAt (w.heap.size + 1) 7 x.cells := M'.vt
  have rD' : W.rangeAt (w.heap.size + 1) 48 (v8 d) := M'.d
  have rC' : W.rangeAt (w.heap.size + 1) 80 (cert0 Vt.zero) := M'.ct
  clear hA hA' hm M M' hx hd hdb
  generalize (Ms.plain k e s x d).cells = q at *
  generalize x.cells = u at *
  generalize v8 d = ud at *
  generalize cert0 Vt.zero = uc at *
  go_enter Tryz.func13, Tryz.ntmps13
  go_upto_region 1 with fail
  go_name_world w1 hw1
  obtain rfl : W = w1 := hW.out.symm.trans hw1
  clear hw1 hW
  try simp only [Act.put]
  refine wp_region_list ?_
  refine wpList_step fun K hK => ?_
  go_simp
  refine hK _ _ ?_
  clear hK K
  refine wpList_step fun K hK => ?_
  go_simp
  refine hK _ _ ?_
  clear hK K
  refine wpList_step fun K hK => ?_
  go_simp
  refine hK _ _ ?_
  clear hK K
  refine wpList_step fun K hK => ?_
  go_simp
  refine hK _ _ ?_
  clear hK K
  refine wpList_step fun K hK => ?_
  go_simp
  refine hK _ _ ?_
  clear hK K
  refine wpList_step fun K hK => ?_
  go_simp
  refine hK _ _ ?_
  clear hK K
  refine wpList_step fun K hK => ?_
  go_simp
  refine hK _ _ ?_
  clear hK K
  refine wpList_step fun K hK => ?_
  go_simp
  refine hK _ _ ?_
  clear hK K
  refine wpList_step fun K hK => ?_
  go_simp
  refine hK _ _ ?_
  clear hK K
  refine wpList_step fun K hK => ?_
  go_simp
  refine hK _ _ ?_
  clear hK K
  refine wpList_step fun K hK => ?_
  go_simp
  refine hK _ _ ?_
  clear hK K
  refine wpList_step fun K hK => ?_
  go_simp
  refine hK _ _ ?_
  clear hK K
  refine wpList_step fun K hK => ?_
  go_simp
  refine hK _ _ ?_
  clear hK K
  refine wpList_step fun K hK => ?_
  go_simp
  refine hK _ _ ?_
  clear hK K
  refine wpList_step fun K hK => ?_
  go_simp
  refine hK _ _ ?_
  clear hK K
  refine wpList_step fun K hK => ?_
  go_simp
  refine hK _ _ ?_
  clear hK K
  refine wpList_step fun K hK => ?_
  go_simp
  refine hK _ _ ?_
  clear hK K
  refine wpList_step fun K hK => ?_
  go_simp
  refine hK _ _ ?_
  clear hK K
  refine wpList_step fun K hK => ?_
  go_simp
  refine hK _ _ ?_
  clear hK K
  refine wpList_step fun K hK => ?_
  go_simp
  refine hK _ _ ?_
  clear hK K
  refine wpList_step fun K hK => ?_
  go_simp
  refine hK _ _ ?_
  clear hK K
  refine wpList_step fun K hK => ?_
  go_simp
  refine hK _ _ ?_
  clear hK K
  refine wpList_step fun K hK => ?_
  go_simp
  refine hK _ _ ?_
  clear hK K
  refine wpList_step fun K hK => ?_
  go_simp
  refine hK _ _ ?_
  clear hK K
  refine wpList_step fun K hK => ?_
  go_simp
  refine hK _ _ ?_
  clear hK K
  refine wpList_step fun K hK => ?_
  go_simp
  refine hK _ _ ?_
  clear hK K
  refine wpList_step fun K hK => ?_
  go_simp
  refine hK _ _ ?_
  clear hK K
  refine wpList_step fun K hK => ?_
  go_simp
  refine hK _ _ ?_
  clear hK K
  refine wpList_step fun K hK => ?_
  go_simp
  refine hK _ _ ?_
  clear hK K
  refine wpList_step fun K hK => ?_
  go_simp
  refine hK _ _ ?_
  clear hK K
  refine wpList_step fun K hK => ?_
  go_simp
  refine hK _ _ ?_
  clear hK K
  refine wpList_step fun K hK => ?_
  go_simp
  refine hK _ _ ?_
  clear hK K
  refine wpList_step fun K hK => ?_
  go_simp
  refine hK _ _ ?_
  clear hK K
  refine wpList_step fun K hK => ?_
  go_simp
  refine hK _ _ ?_
  clear hK K
  refine wpList_step fun K hK => ?_
  go_simp
  refine hK _ _ ?_
  clear hK K
  refine wpList_load_g (by rfl) 28 _ rfl _ _ rfl u _ rV Tryz.underlying28 rfl ix ?_
  refine wpList_step fun K hK => ?_
  go_simp
  refine hK _ _ ?_
  clear hK K
  refine wpList_load_g (by rfl) 28 _ rfl _ _ rfl u _ rV' Tryz.underlying28 rfl ix ?_
  refine wpList_step fun K hK => ?_
  go_simp
  try rw [hq]
  try go_simp
  refine hK _ _ ?_
  clear hK K
  refine wpList_step fun K hK => ?_
  go_simp
  refine hK _ _ ?_
  clear hK K
  refine wpList_step fun K hK => ?_
  go_simp
  refine hK _ _ ?_
  clear hK K
  refine wpList_step fun K hK => ?_
  go_simp
  refine hK _ _ ?_
  clear hK K
  refine wpList_load_g (by rfl) 26 _ rfl _ _ rfl ud _ rD Tryz.underlying26 rfl id ?_
  refine wpList_step fun K hK => ?_
  go_simp
  refine hK _ _ ?_
  clear hK K
  refine wpList_load_g (by rfl) 26 _ rfl _ _ rfl ud _ rD' Tryz.underlying26 rfl id ?_
  refine wpList_step fun K hK => ?_
  go_simp
  try rw [hq2]
  try go_simp
  refine hK _ _ ?_
  clear hK K
  refine wpList_step fun K hK => ?_
  go_simp
  refine hK _ _ ?_
  clear hK K
  refine wpList_step fun K hK => ?_
  go_simp
  refine hK _ _ ?_
  clear hK K
  refine wpList_step fun K hK => ?_
  go_simp
  refine hK _ _ ?_
  clear hK K
  refine wpList_step fun K hK => ?_
  go_simp
  refine hK _ _ ?_
  clear hK K
  refine wpList_step fun K hK => ?_
  go_simp
  refine hK _ _ ?_
  clear hK K
  refine wpList_step fun K hK => ?_
  go_simp
  refine hK _ _ ?_
  clear hK K
  refine wpList_step fun K hK => ?_
  go_simp
  refine hK _ _ ?_
  clear hK K
  refine wpList_step fun K hK => ?_
  go_simp
  refine hK _ _ ?_
  clear hK K
  go_upto_region 3 with fail
  clear cK cE cL cV cS cK' cE' cL' cV' cS' rV rV' rD rD' cT cT' hq hq2
  obtain ⟨r2, hb2, hz2, _⟩ := fresh_store W #[.int .i64 0, .int .i64 0, .int .i64 0, .slice none 0 0] 31 [.int .i64 0, .int .i64 0, .int .i64 0, .slice none 0 0] rfl
  have hT2 := there_new W #[.int .i64 0, .int .i64 0, .int .i64 0, .slice none 0 0] 31
  go_upto_region 4 with (refine wpList_store_mid rfl 31 _ _ rfl _ _ #[.int .i64 0, .int .i64 0, .int .i64 0, .slice none 0 0] rfl rfl hT2 iszH4 one4 ?_)
  go_name_world w2 hw2
  rw [show (W.alloc (.cells #[.int .i64 0, .int .i64 0, .int .i64 0, .slice none 0 0] 31)).setCells W.heap.size 0 [.int .i64 0, .int .i64 0, .int .i64 0, .slice none 0 0] = w2 from hw2] at r2 hb2 hz2
  have hs2 : W.heap.size < w2.heap.size := by omega
  clear hw2 hz2 hT2
  have up := fun i v (h : W.cell? ⟨w.heap.size, i, none⟩ = some v) => (hb2.cell (p := ⟨w.heap.size, i, none⟩) (show w.heap.size < W.heap.size by omega)).trans h
  replace c1 := up _ _ c1
  replace c2 := up _ _ c2
  replace c3 := up _ _ c3
  replace cH := up _ _ cH
  replace cQ := up _ _ cQ
  replace cR := up _ _ cR
  replace cN := up _ _ cN
  replace cG := up _ _ cG
  replace rC := range_below rC hb2 (by omega)
  clear up
  have up' := fun i v (h : W.cell? ⟨w.heap.size + 1, i, none⟩ = some v) => (hb2.cell (p := ⟨w.heap.size + 1, i, none⟩) (show w.heap.size + 1 < W.heap.size by omega)).trans h
  replace c1' := up' _ _ c1'
  replace c2' := up' _ _ c2'
  replace c3' := up' _ _ c3'
  replace cH' := up' _ _ cH'
  replace cQ' := up' _ _ cQ'
  replace cR' := up' _ _ cR'
  replace cN' := up' _ _ cN'
  replace cG' := up' _ _ cG'
  replace rC' := range_below rC' hb2 (by omega)
  clear up'
  have hBa := hB.trans (hb2.mono (by omega))
  clear hB
  obtain ⟨r3, hb3, hz3, _⟩ := fresh_store w2 #[.int .i64 0, .int .i64 0, .int .i64 0, .slice none 0 0] 31 [.int .i64 0, .int .i64 0, .int .i64 0, .slice none 0 0] rfl
  have hT3 := there_new w2 #[.int .i64 0, .int .i64 0, .int .i64 0, .slice none 0 0] 31
  go_upto_region 5 with (refine wpList_store_mid rfl 31 _ _ rfl _ _ #[.int .i64 0, .int .i64 0, .int .i64 0, .slice none 0 0] rfl rfl hT3 iszH4 one4 ?_)
  go_name_world w3 hw3
  rw [show (w2.alloc (.cells #[.int .i64 0, .int .i64 0, .int .i64 0, .slice none 0 0] 31)).setCells w2.heap.size 0 [.int .i64 0, .int .i64 0, .int .i64 0, .slice none 0 0] = w3 from hw3] at r3 hb3 hz3
  have hs3 : w2.heap.size < w3.heap.size := by omega
  clear hw3 hz3 hT3
  have up := fun i v (h : w2.cell? ⟨w.heap.size, i, none⟩ = some v) => (hb3.cell (p := ⟨w.heap.size, i, none⟩) (show w.heap.size < w2.heap.size by omega)).trans h
  replace cQ := up _ _ cQ
  replace cR := up _ _ cR
  replace cN := up _ _ cN
  replace cG := up _ _ cG
  replace rC := range_below rC hb3 (by omega)
  clear up
  have up' := fun i v (h : w2.cell? ⟨w.heap.size + 1, i, none⟩ = some v) => (hb3.cell (p := ⟨w.heap.size + 1, i, none⟩) (show w.heap.size + 1 < w2.heap.size by omega)).trans h
  replace cQ' := up' _ _ cQ'
  replace cR' := up' _ _ cR'
  replace cN' := up' _ _ cN'
  replace cG' := up' _ _ cG'
  replace rC' := range_below rC' hb3 (by omega)
  clear up'
  have hBb := hBa.trans (hb3.mono (by omega))
  have d0 := range_below r2 hb3 (by omega) 0 _ rfl
  have d1 := range_below r2 hb3 (by omega) 1 _ rfl
  have d2 := range_below r2 hb3 (by omega) 2 _ rfl
  have d3 := range_below r2 hb3 (by omega) 3 _ rfl
  have f0 := r3 0 _ rfl
  have f1 := r3 1 _ rfl
  have f2 := r3 2 _ rfl
  have f3 := r3 3 _ rfl
  simp only [Nat.zero_add, Nat.add_zero] at d0 d1 d2 d3 f0 f1 f2 f3
  have hs4 : w.heap.size + 2 ≤ w3.heap.size := by omega
  clear r2 r3 hb2 hb3 hBa c1 c2 c3 cH c1' c2' c3' cH' hs hs2 hs3
  go_wp2_with fail
  refine (xsH0 _).mono ?_
  rintro e4 w4 ⟨rfl, hx⟩
  obtain rfl := hx.symm
  clear hx d0 d1 d2 d3 f0 f1 f2 f3
  go_upto_region 7 with fail
  go_wp2_with fail
  refine (xbsame0 false _).mono ?_
  rintro e5 w5 ⟨rfl, hb5⟩
  have up := fun i v (h : w3.cell? ⟨w.heap.size, i, none⟩ = some v) => (hb5.cell (p := ⟨w.heap.size, i, none⟩) (show w.heap.size < w3.heap.size by omega)).trans h
  replace cN := up _ _ cN
  replace cG := up _ _ cG
  replace rC := range_below rC hb5 (by omega)
  clear up
  have up' := fun i v (h : w3.cell? ⟨w.heap.size + 1, i, none⟩ = some v) => (hb5.cell (p := ⟨w.heap.size + 1, i, none⟩) (show w.heap.size + 1 < w3.heap.size by omega)).trans h
  replace cN' := up' _ _ cN'
  replace cG' := up' _ _ cG'
  replace rC' := range_below rC' hb5 (by omega)
  clear up'
  have hs5 := Nat.le_trans hs4 hb5.size
  have hB5 := hBb.trans (hb5.mono (by omega))
  clear cQ cR cQ' cR' hb5 hs4 hBb
  go_wp2_with fail
  refine (xsN0 _).mono ?_
  rintro e6 w6 ⟨rfl, hx⟩
  obtain rfl := hx.symm
  clear hx cN cN'
  go_wp2_with (first | (refine wpList_load_g (by rfl) 35 _ rfl _ _ rfl uc _ rC Tryz.underlying35 rfl ic ?_) | (refine wpList_load_g (by rfl) 35 _ rfl _ _ rfl uc _ rC' Tryz.underlying35 rfl ic ?_))
  refine (cC _).mono ?_
  rintro e7 w7 ⟨rfl, hb7⟩
  have up := fun i v (h : w5.cell? ⟨w.heap.size, i, none⟩ = some v) => (hb7.cell (p := ⟨w.heap.size, i, none⟩) (show w.heap.size < w5.heap.size by omega)).trans h
  replace cG := up _ _ cG
  clear up
  have up' := fun i v (h : w5.cell? ⟨w.heap.size + 1, i, none⟩ = some v) => (hb7.cell (p := ⟨w.heap.size + 1, i, none⟩) (show w.heap.size + 1 < w5.heap.size by omega)).trans h
  replace cG' := up' _ _ cG'
  clear up'
  have hB7 := hB5.trans (hb7.mono (by omega))
  clear rC rC' hb7 hs5 hB5 cC
  go_wp2_with fail
  refine (xsS0 _).mono ?_
  rintro e8 w8 ⟨rfl, hx⟩
  obtain rfl := hx.symm
  clear hx cG cG'
  go_wp2_with fail
  go_ret
  exact ⟨rfl, hB7⟩
end Go.Proofs.YtghgomglpgidoaaGreat
namespace Go.Proofs.YtghgomglpgidoaaGreat
open Go.RowKit
open Sha Tal
theorem plain_ok2 {x : Vt} (hx : x.ok) : (Ms.plain 2 0 0 x zeros32).ok := Ms.plain_ok 2 0 0 hx zeros32_len zeros32_byte
set_option maxRecDepth 100000 in
set_option maxHeartbeats 4000000 in
theorem fmay2 (x : Vt) (hx : x.ok) (w : World) : Calls Tryz.prog 25 #[.agg (Ms.plain 2 0 0 x zeros32).cells.toArray] w fun e w' => e = .returned (.bool x.may) ∧ Below w.heap.size w w' := by
  have hm : (Ms.plain 2 0 0 x zeros32).ok := plain_ok2 hx
  have hB : Below w.heap.size w (w.alloc (.cells (Ms.plain 2 0 0 x zeros32).cells.toArray 37)) := (Below.refl _ _).alloc (Nat.le_refl _) _
  have hs : w.heap.size < (w.alloc (.cells (Ms.plain 2 0 0 x zeros32).cells.toArray 37)).heap.size := by simp
  have M := (Ms.plain 2 0 0 x zeros32).box hm w
  obtain ⟨W, hW⟩ : ∃ W, Hid (w.alloc (.cells (Ms.plain 2 0 0 x zeros32).cells.toArray 37) = W) := ⟨_, hide rfl⟩
  rw [hW.out] at hB hs M
  have cK : W.cell? ⟨w.heap.size, 0, none⟩ = some (.int .i64 2) := M.k
  have cE : W.cell? ⟨w.heap.size, 1, none⟩ = some (.int .i64 0) := M.e
  have cL : W.cell? ⟨w.heap.size, 2, none⟩ = some (.int .i64 0) := M.l
  have cV : W.cell? ⟨w.heap.size, 3, none⟩ = some (.int .i64 0) := M.v
  have cS : W.cell? ⟨w.heap.size, 4, none⟩ = some (.int .i64 0) := M.s
  have cQ : W.cell? ⟨w.heap.size, 5, none⟩ = some (.bool false) := M.q
  have cR : W.cell? ⟨w.heap.size, 6, none⟩ = some (.slice none 0 0) := M.rs
  have c1 : W.cell? ⟨w.heap.size, 43, none⟩ = some (.int .i64 0) := M.ce
  have c2 : W.cell? ⟨w.heap.size, 44, none⟩ = some (.int .i64 0) := M.cl
  have c3 : W.cell? ⟨w.heap.size, 45, none⟩ = some (.int .i64 0) := M.cv
  have cH : W.cell? ⟨w.heap.size, 46, none⟩ = some (.slice none 0 0) := M.he
  have cN : W.cell? ⟨w.heap.size, 47, none⟩ = some (.slice none 0 0) := M.ne
  have cT : W.cell? ⟨w.heap.size, 117, none⟩ = some (.string ⟨#[]⟩) := M.st
  have cG : W.cell? ⟨w.heap.size, 118, none⟩ = some (.slice none 0 0) := M.sg
  have rV : W.rangeAt w.heap.size 7 x.cells := M.vt
  have ix : (Tryz.prog.info? 28).map (·.size) = some x.cells.length := by rw [hx.len]; exact iszV
  have i1 : inB 0 1048576 = true := rfl
  have i2 : inB 0 64 = true := rfl
  have i3 : inB 0 1099511627776 = true := rfl
  have i4 := i3
  have i5 := i3
  have cv := fun w0 => voteMay_any x w0
  generalize x.may = b at *
  generalize (Ms.plain 2 0 0 x zeros32).cells = q at *
  generalize x.cells = u at *
  clear hm M hx
  go_enter Tryz.func25, Tryz.ntmps25
  go_upto_region 1 with fail
  go_name_world w1 hw1
  obtain rfl : W = w1 := hW.out.symm.trans hw1
  clear hw1 hW
  go_upto_region 5 with (go_at_call 72; refine (within_any _ _ _).mono ?_; rintro e1 w1 ⟨rfl, hx⟩; obtain rfl := hx.symm; clear hx; (first | rw [i1] | rw [i2] | rw [i3] | rw [i4] | rw [i5]))
  go_wp2_with (refine wpList_load_g (by rfl) 28 _ rfl _ _ rfl u _ rV Tryz.underlying28 rfl ix ?_)
  refine (cv _).mono ?_
  rintro e2 w2 ⟨rfl, hb2⟩
  have up := fun i v (h : W.cell? ⟨w.heap.size, i, none⟩ = some v) => (hb2.cell (p := ⟨w.heap.size, i, none⟩) (show w.heap.size < W.heap.size by omega)).trans h
  replace cK := up _ _ cK
  replace cQ := up _ _ cQ
  replace cR := up _ _ cR
  replace c1 := up _ _ c1
  replace c2 := up _ _ c2
  replace c3 := up _ _ c3
  replace cH := up _ _ cH
  replace cN := up _ _ cN
  replace cT := up _ _ cT
  replace cG := up _ _ cG
  clear up
  replace hB := hB.trans (hb2.mono (by omega))
  replace hs := Nat.lt_of_lt_of_le hs hb2.size
  clear cE cL cV cS rV cv hb2
  cases b
  · go_wp2
    go_ret
    exact ⟨rfl, hB⟩
  · go_wp2_with fail
    refine (batMay0 false _).mono ?_
    rintro e3 w3 ⟨rfl, hb3⟩
    have up := fun i v (h : w2.cell? ⟨w.heap.size, i, none⟩ = some v) => (hb3.cell (p := ⟨w.heap.size, i, none⟩) (show w.heap.size < w2.heap.size by omega)).trans h
    replace c1 := up _ _ c1
    replace c2 := up _ _ c2
    replace c3 := up _ _ c3
    replace cH := up _ _ cH
    replace cN := up _ _ cN
    replace cT := up _ _ cT
    replace cG := up _ _ cG
    clear up
    have hs3 := Nat.lt_of_lt_of_le hs hb3.size
    have hB3 := hB.trans (hb3.mono (by omega))
    clear cQ cR hb3 hB hs
    go_wp2_with fail
    refine (chgMay0 _).mono ?_
    rintro e4 w4 ⟨rfl, hb4⟩
    have up := fun i v (h : w3.cell? ⟨w.heap.size, i, none⟩ = some v) => (hb4.cell (p := ⟨w.heap.size, i, none⟩) (show w.heap.size < w3.heap.size by omega)).trans h
    replace cN := up _ _ cN
    replace cT := up _ _ cT
    replace cG := up _ _ cG
    clear up
    have hs4 := Nat.lt_of_lt_of_le hs3 hb4.size
    have hB4 := hB3.trans (hb4.mono (by omega))
    clear c1 c2 c3 cH hb4 hB3 hs3
    go_wp2_with fail
    refine (amE0 _ _ (by omega) _).mono ?_
    rintro e5 w5 ⟨rfl, hx⟩
    obtain rfl := hx.symm
    clear hx cN
    go_wp2_with fail
    refine (sigMay0 _).mono ?_
    rintro e6 w6 ⟨rfl, hx⟩
    obtain rfl := hx.symm
    clear hx cT cG
    go_wp2_with fail
    go_ret
    exact ⟨rfl, hB4⟩
set_option maxRecDepth 100000 in
set_option maxHeartbeats 4000000 in
theorem fmay5 (e : Int) (d : List Int) (hd : d.length = 32) (hdb : ∀ z ∈ d, 0 ≤ z ∧ z < 256) (w : World) : Calls Tryz.prog 25 #[.agg (Ms.plain 5 e 0 Vt.zero d).cells.toArray] w fun er w' => er = .returned (.bool (inB e 1048576)) ∧ Below w.heap.size w w' := by
  have hm : (Ms.plain 5 e 0 Vt.zero d).ok := Ms.plain_ok 5 e 0 Vt.zero_ok hd hdb
  have hB : Below w.heap.size w (w.alloc (.cells (Ms.plain 5 e 0 Vt.zero d).cells.toArray 37)) := (Below.refl _ _).alloc (Nat.le_refl _) _
  have hs : w.heap.size < (w.alloc (.cells (Ms.plain 5 e 0 Vt.zero d).cells.toArray 37)).heap.size := by simp
  have M := (Ms.plain 5 e 0 Vt.zero d).box hm w
  obtain ⟨W, hW⟩ : ∃ W, Hid (w.alloc (.cells (Ms.plain 5 e 0 Vt.zero d).cells.toArray 37) = W) := ⟨_, hide rfl⟩
  rw [hW.out] at hB hs M
  have cK : W.cell? ⟨w.heap.size, 0, none⟩ = some (.int .i64 5) := M.k
  have cE : W.cell? ⟨w.heap.size, 1, none⟩ = some (.int .i64 e) := M.e
  have cL : W.cell? ⟨w.heap.size, 2, none⟩ = some (.int .i64 0) := M.l
  have cV : W.cell? ⟨w.heap.size, 3, none⟩ = some (.int .i64 0) := M.v
  have cS : W.cell? ⟨w.heap.size, 4, none⟩ = some (.int .i64 0) := M.s
  have cQ : W.cell? ⟨w.heap.size, 5, none⟩ = some (.bool false) := M.q
  have cR : W.cell? ⟨w.heap.size, 6, none⟩ = some (.slice none 0 0) := M.rs
  have c1 : W.cell? ⟨w.heap.size, 43, none⟩ = some (.int .i64 0) := M.ce
  have c2 : W.cell? ⟨w.heap.size, 44, none⟩ = some (.int .i64 0) := M.cl
  have c3 : W.cell? ⟨w.heap.size, 45, none⟩ = some (.int .i64 0) := M.cv
  have cH : W.cell? ⟨w.heap.size, 46, none⟩ = some (.slice none 0 0) := M.he
  have cN : W.cell? ⟨w.heap.size, 47, none⟩ = some (.slice none 0 0) := M.ne
  have cT : W.cell? ⟨w.heap.size, 117, none⟩ = some (.string ⟨#[]⟩) := M.st
  have cG : W.cell? ⟨w.heap.size, 118, none⟩ = some (.slice none 0 0) := M.sg
  have i1 : inB 0 1048576 = true := rfl
  have i2 : inB 0 64 = true := rfl
  have i3 : inB 0 1099511627776 = true := rfl
  have i5 := i3
  cases i4 : inB e 1048576
  · generalize (Ms.plain 5 e 0 Vt.zero d).cells = q at *
    clear hm M hd hdb i1
    go_enter Tryz.func25, Tryz.ntmps25
    go_upto_region 1 with fail
    go_name_world w1 hw1
    obtain rfl : W = w1 := hW.out.symm.trans hw1
    clear hw1 hW
    go_wp2_with (go_at_call 72; refine (within_any _ _ _).mono ?_; rintro e1 w1 ⟨rfl, hx⟩; obtain rfl := hx.symm; clear hx; (first | rw [i2] | rw [i3] | rw [i4] | rw [i5]))
    go_ret
    exact ⟨rfl, hB⟩
  · generalize (Ms.plain 5 e 0 Vt.zero d).cells = q at *
    clear hm M hd hdb
    go_enter Tryz.func25, Tryz.ntmps25
    go_upto_region 1 with fail
    go_name_world w1 hw1
    obtain rfl : W = w1 := hW.out.symm.trans hw1
    clear hw1 hW
    go_upto_region 9 with (go_at_call 72; refine (within_any _ _ _).mono ?_; rintro e1 w1 ⟨rfl, hx⟩; obtain rfl := hx.symm; clear hx; (first | rw [i1] | rw [i2] | rw [i3] | rw [i4] | rw [i5]))
    go_wp2_with fail
    refine (batMay0 false _).mono ?_
    rintro e3 w3 ⟨rfl, hb3⟩
    have up := fun i v (h : W.cell? ⟨w.heap.size, i, none⟩ = some v) => (hb3.cell (p := ⟨w.heap.size, i, none⟩) (show w.heap.size < W.heap.size by omega)).trans h
    replace c1 := up _ _ c1
    replace c2 := up _ _ c2
    replace c3 := up _ _ c3
    replace cH := up _ _ cH
    replace cN := up _ _ cN
    replace cT := up _ _ cT
    replace cG := up _ _ cG
    clear up
    have hs3 := Nat.lt_of_lt_of_le hs hb3.size
    have hB3 := hB.trans (hb3.mono (by omega))
    clear cQ cR hb3 hB hs
    go_wp2_with fail
    refine (chgMay0 _).mono ?_
    rintro e4 w4 ⟨rfl, hb4⟩
    have up := fun i v (h : w3.cell? ⟨w.heap.size, i, none⟩ = some v) => (hb4.cell (p := ⟨w.heap.size, i, none⟩) (show w.heap.size < w3.heap.size by omega)).trans h
    replace cN := up _ _ cN
    replace cT := up _ _ cT
    replace cG := up _ _ cG
    clear up
    have hs4 := Nat.lt_of_lt_of_le hs3 hb4.size
    have hB4 := hB3.trans (hb4.mono (by omega))
    clear c1 c2 c3 cH hb4 hB3 hs3
    go_wp2_with fail
    refine (amE0 _ _ (by omega) _).mono ?_
    rintro e5 w5 ⟨rfl, hx⟩
    obtain rfl := hx.symm
    clear hx cN
    go_wp2_with fail
    refine (sigMay0 _).mono ?_
    rintro e6 w6 ⟨rfl, hx⟩
    obtain rfl := hx.symm
    clear hx cT cG
    go_wp2_with fail
    go_ret
    exact ⟨rfl, hB4⟩
set_option maxRecDepth 100000 in
set_option maxHeartbeats 4000000 in
theorem fmay6 (w : World) : Calls Tryz.prog 25 #[.agg (Ms.plain 6 2 9 Vt.zero zeros32).cells.toArray] w fun er w' => er = .returned (.bool true) ∧ Below w.heap.size w w' := by
  have hm : (Ms.plain 6 2 9 Vt.zero zeros32).ok := Ms.plain_ok 6 2 9 Vt.zero_ok zeros32_len zeros32_byte
  have hB : Below w.heap.size w (w.alloc (.cells (Ms.plain 6 2 9 Vt.zero zeros32).cells.toArray 37)) := (Below.refl _ _).alloc (Nat.le_refl _) _
  have hs : w.heap.size < (w.alloc (.cells (Ms.plain 6 2 9 Vt.zero zeros32).cells.toArray 37)).heap.size := by simp
  have M := (Ms.plain 6 2 9 Vt.zero zeros32).box hm w
  obtain ⟨W, hW⟩ : ∃ W, Hid (w.alloc (.cells (Ms.plain 6 2 9 Vt.zero zeros32).cells.toArray 37) = W) := ⟨_, hide rfl⟩
  rw [hW.out] at hB hs M
  have cK : W.cell? ⟨w.heap.size, 0, none⟩ = some (.int .i64 6) := M.k
  have cE : W.cell? ⟨w.heap.size, 1, none⟩ = some (.int .i64 2) := M.e
  have cL : W.cell? ⟨w.heap.size, 2, none⟩ = some (.int .i64 0) := M.l
  have cV : W.cell? ⟨w.heap.size, 3, none⟩ = some (.int .i64 0) := M.v
  have cS : W.cell? ⟨w.heap.size, 4, none⟩ = some (.int .i64 9) := M.s
  have cQ : W.cell? ⟨w.heap.size, 5, none⟩ = some (.bool false) := M.q
  have cR : W.cell? ⟨w.heap.size, 6, none⟩ = some (.slice none 0 0) := M.rs
  have c1 : W.cell? ⟨w.heap.size, 43, none⟩ = some (.int .i64 0) := M.ce
  have c2 : W.cell? ⟨w.heap.size, 44, none⟩ = some (.int .i64 0) := M.cl
  have c3 : W.cell? ⟨w.heap.size, 45, none⟩ = some (.int .i64 0) := M.cv
  have cH : W.cell? ⟨w.heap.size, 46, none⟩ = some (.slice none 0 0) := M.he
  have cN : W.cell? ⟨w.heap.size, 47, none⟩ = some (.slice none 0 0) := M.ne
  have cT : W.cell? ⟨w.heap.size, 117, none⟩ = some (.string ⟨#[]⟩) := M.st
  have cG : W.cell? ⟨w.heap.size, 118, none⟩ = some (.slice none 0 0) := M.sg
  have i1 : inB 0 1048576 = true := rfl
  have i2 : inB 0 64 = true := rfl
  have i3 : inB 0 1099511627776 = true := rfl
  have i4 : inB 2 1048576 = true := rfl
  have i5 : inB 9 1099511627776 = true := rfl
  generalize (Ms.plain 6 2 9 Vt.zero zeros32).cells = q at *
  clear hm M
  go_enter Tryz.func25, Tryz.ntmps25
  go_upto_region 1 with fail
  go_name_world w1 hw1
  obtain rfl : W = w1 := hW.out.symm.trans hw1
  clear hw1 hW
  go_upto_region 9 with (go_at_call 72; refine (within_any _ _ _).mono ?_; rintro e1 w1 ⟨rfl, hx⟩; obtain rfl := hx.symm; clear hx; (first | rw [i1] | rw [i2] | rw [i3] | rw [i4] | rw [i5]))
  go_wp2_with fail
  refine (batMay0 false _).mono ?_
  rintro e3 w3 ⟨rfl, hb3⟩
  have up := fun i v (h : W.cell? ⟨w.heap.size, i, none⟩ = some v) => (hb3.cell (p := ⟨w.heap.size, i, none⟩) (show w.heap.size < W.heap.size by omega)).trans h
  replace c1 := up _ _ c1
  replace c2 := up _ _ c2
  replace c3 := up _ _ c3
  replace cH := up _ _ cH
  replace cN := up _ _ cN
  replace cT := up _ _ cT
  replace cG := up _ _ cG
  clear up
  have hs3 := Nat.lt_of_lt_of_le hs hb3.size
  have hB3 := hB.trans (hb3.mono (by omega))
  clear cQ cR hb3 hB hs
  go_wp2_with fail
  refine (chgMay0 _).mono ?_
  rintro e4 w4 ⟨rfl, hb4⟩
  have up := fun i v (h : w3.cell? ⟨w.heap.size, i, none⟩ = some v) => (hb4.cell (p := ⟨w.heap.size, i, none⟩) (show w.heap.size < w3.heap.size by omega)).trans h
  replace cN := up _ _ cN
  replace cT := up _ _ cT
  replace cG := up _ _ cG
  clear up
  have hs4 := Nat.lt_of_lt_of_le hs3 hb4.size
  have hB4 := hB3.trans (hb4.mono (by omega))
  clear c1 c2 c3 cH hb4 hB3 hs3
  go_wp2_with fail
  refine (amE0 _ _ (by omega) _).mono ?_
  rintro e5 w5 ⟨rfl, hx⟩
  obtain rfl := hx.symm
  clear hx cN
  go_wp2_with fail
  refine (sigMay0 _).mono ?_
  rintro e6 w6 ⟨rfl, hx⟩
  obtain rfl := hx.symm
  clear hx cT cG
  go_wp2_with fail
  go_ret
  exact ⟨rfl, hB4⟩
end Go.Proofs.YtghgomglpgidoaaGreat
namespace Go.Proofs.YtghgomglpgidoaaGreat
open Go.RowKit
open Sha Tal
set_option maxRecDepth 100000 in
set_option maxHeartbeats 4000000 in
theorem good0 (q : List Value) (k : Int) (b : Bool) (w : World) (hq : q.length = 119) (h0 : q[0]? = some (.int .i64 k)) (h1 : 1 ≤ k) (h8 : k ≤ 8)
    (hb : ∀ w, Calls Tryz.prog 24 #[.agg q.toArray] w (BareOk w q))
    (hsm : ∀ w, Calls Tryz.prog 12 #[.agg q.toArray, .agg q.toArray] w fun e w' => e = .returned (.bool true) ∧ Below w.heap.size w w')
    (hf : ∀ w, Calls Tryz.prog 25 #[.agg q.toArray] w fun e w' => e = .returned (.bool b) ∧ Below w.heap.size w w') :
    Calls Tryz.prog 10 #[.agg q.toArray] w fun e w' => e = .returned (.bool b) ∧ Below w.heap.size w w' := by
  have hB : Below w.heap.size w (w.alloc (.cells q.toArray 37)) := (Below.refl _ _).alloc (Nat.le_refl _) _
  have hs : w.heap.size < (w.alloc (.cells q.toArray 37)).heap.size := by simp
  have hA : (w.alloc (.cells q.toArray 37)).rangeAt w.heap.size 0 q := by simpa using range_new w q.toArray 37
  have c0 := hA 0 _ h0
  simp only [Nat.add_zero] at c0
  have iq : (Tryz.prog.info? 37).map (·.size) = some q.length := by rw [hq]; exact iszM
  clear hq h0
  go_enter Tryz.func10, Tryz.ntmps10
  go_upto_region 2 with fail
  obtain ⟨w8, hw8⟩ : ∃ w8, (w.alloc (.cells q.toArray 37)).drew = w8 := ⟨_, rfl⟩
  have hB8 : Below w.heap.size w w8 := by rw [← hw8]; exact hB.drew
  have hA8 : w8.rangeAt w.heap.size 0 q := by rw [← hw8]; exact (World.rangeAt_drew _ _ _ _).2 hA
  have hs8 : w.heap.size < w8.heap.size := by rw [← hw8]; exact hs
  refine hs_begin (S := (Below w8.heap.size w8)) 12 rfl (by kernel_rfl) ?_
  rw [hw8]
  clear hw8 hA hB hs c0
  have hS : (Below w8.heap.size w8) w8 := Below.refl _ _
  refine hs_take (i := 0) (d := some 12) (v := ?_) rfl (by kernel_rfl) (by kernel_rfl) (by kernel_rfl) (by rfl) ?_ hS rfl ?_
  rotate_left
  · intro w' hw
    go_simp
    try with_reducible rfl
  simp only [Act.put, List.setIfInBounds_toArray, List.set_cons_zero, List.set_cons_succ]
  refine hs_take (i := 1) (d := some 13) (v := ?_) rfl (by kernel_rfl) (by kernel_rfl) (by kernel_rfl) (by rfl) ?_ hS rfl ?_
  rotate_left
  · intro w' hw
    go_simp
    try with_reducible rfl
  simp only [Act.put, List.setIfInBounds_toArray, List.set_cons_zero, List.set_cons_succ]
  refine hs_take (i := 2) (d := some 14) (v := .agg q.toArray) rfl (by kernel_rfl) (by kernel_rfl) (by kernel_rfl) (by rfl) (fun w' hw => exec_loadC rfl rfl (run_loadVar_mid (P := Tryz.prog) w' w.heap.size 0 37 q _ (range_below hA8 hw hs8) Tryz.underlying37 rfl iq)) hS rfl ?_
  simp only [Act.put, List.setIfInBounds_toArray, List.set_cons_zero, List.set_cons_succ]
  refine hs_take (i := 3) (d := some 15) (v := .agg q.toArray) rfl (by kernel_rfl) (by kernel_rfl) (by kernel_rfl) (by rfl) (fun w' hw => exec_loadC rfl rfl (run_loadVar_mid (P := Tryz.prog) w' w.heap.size 0 37 q _ (range_below hA8 hw hs8) Tryz.underlying37 rfl iq)) hS rfl ?_
  simp only [Act.put, List.setIfInBounds_toArray, List.set_cons_zero, List.set_cons_succ]
  refine hs_call (i := 4) (d := some 16) rfl (by kernel_rfl) (by rfl) (by go_simp; first | done | exact ⟨rfl, rfl⟩ | with_reducible rfl) rfl ?_
  refine (hb _).mono ?_
  rintro e' wn1 ⟨rfl, hb1⟩
  have hS : (Below w8.heap.size w8) wn1 := hS.trans (hb1.mono hS.size)
  refine ⟨_, rfl, hS, ?_⟩
  simp only [Act.put, List.setIfInBounds_toArray, List.set_cons_zero, List.set_cons_succ]
  refine hs_call (i := 5) (d := some 17) rfl (by kernel_rfl) (by rfl) (by go_simp; first | done | exact ⟨rfl, rfl⟩ | with_reducible rfl) rfl ?_
  refine (hsm _).mono ?_
  rintro e' wn2 ⟨rfl, hb2⟩
  have hS : (Below w8.heap.size w8) wn2 := hS.trans (hb2.mono hS.size)
  refine ⟨_, rfl, hS, ?_⟩
  simp only [Act.put, List.setIfInBounds_toArray, List.set_cons_zero, List.set_cons_succ]
  refine hs_take (i := 6) (d := some 18) (v := ?_) rfl (by kernel_rfl) (by kernel_rfl) (by kernel_rfl) (by rfl) ?_ hS rfl ?_
  rotate_left
  · intro w' hw
    go_simp
    try with_reducible rfl
  simp only [Act.put, List.setIfInBounds_toArray, List.set_cons_zero, List.set_cons_succ]
  refine hs_take (i := 7) (d := some 19) (v := ?_) rfl (by kernel_rfl) (by kernel_rfl) (by kernel_rfl) (by rfl) ?_ hS rfl ?_
  rotate_left
  · intro w' hw
    go_simp
    try with_reducible rfl
  simp only [Act.put, List.setIfInBounds_toArray, List.set_cons_zero, List.set_cons_succ]
  refine hs_take (i := 8) (d := some 20) (v := .agg q.toArray) rfl (by kernel_rfl) (by kernel_rfl) (by kernel_rfl) (by rfl) (fun w' hw => exec_loadC rfl rfl (run_loadVar_mid (P := Tryz.prog) w' w.heap.size 0 37 q _ (range_below hA8 hw hs8) Tryz.underlying37 rfl iq)) hS rfl ?_
  simp only [Act.put, List.setIfInBounds_toArray, List.set_cons_zero, List.set_cons_succ]
  refine hs_call (i := 9) (d := some 21) rfl (by kernel_rfl) (by rfl) (by go_simp; first | done | exact ⟨rfl, rfl⟩ | with_reducible rfl) rfl ?_
  refine (hf _).mono ?_
  rintro e' wn3 ⟨rfl, hb3⟩
  have hS : (Below w8.heap.size w8) wn3 := hS.trans (hb3.mono hS.size)
  refine ⟨_, rfl, hS, ?_⟩
  simp only [Act.put, List.setIfInBounds_toArray, List.set_cons_zero, List.set_cons_succ]
  refine hs_take (i := 10) (d := some 22) (v := ?_) rfl (by kernel_rfl) (by kernel_rfl) (by kernel_rfl) (by rfl) ?_ hS rfl ?_
  rotate_left
  · intro w' hw
    go_simp
    try with_reducible rfl
  simp only [Act.put, List.setIfInBounds_toArray, List.set_cons_zero, List.set_cons_succ]
  refine hs_take (i := 11) (d := some 2) (v := ?_) rfl (by kernel_rfl) (by kernel_rfl) (by kernel_rfl) (by rfl) ?_ hS rfl ?_
  rotate_left
  · intro w' hw
    go_simp
    try with_reducible rfl
  simp only [Act.put, List.setIfInBounds_toArray, List.set_cons_zero, List.set_cons_succ]
  refine hs_done (by kernel_rfl) ?_
  go_wp2
  go_ret
  exact ⟨rfl, hB8.trans (hS.mono (by omega))⟩
end Go.Proofs.YtghgomglpgidoaaGreat
namespace Go.Proofs.YtghgomglpgidoaaGreat
open Go.RowKit
open Sha
def strOf (zs : List Int) : ByteArray := zs.foldl (fun r n => r.push (UInt8.ofNat n.toNat)) ByteArray.empty
theorem row_str {w : World} {b off cap : Nat} {zs : List Int} (h : w.rangeAt b off (v8 zs)) : (convert 62 9 (.slice (some ⟨b, off, none⟩) zs.length cap)).run Tryz.prog w = .ok (.string (strOf zs)) w := by
  rw [run_convert_bytes_string w 62 9 5 (some ⟨b, off, none⟩) zs.length cap Tryz.underlying62 Tryz.underlying5 Tryz.underlying9]
  have := run_loadCells_list (P := Tryz.prog) w ⟨b, off, none⟩ (v8 zs) (fun j v hv => by rw [Addr.add_mid]; exact h j v hv)
  rw [v8_length] at this
  exact run_bytesToString w ⟨b, off, none⟩ zs.length cap zs this
theorem one_part (w : World) (arr : Array Value) (p : Part) (hp : p.at w) (harr : arr = #[p.val]) : PartsAt (w.alloc (.cells arr 62)) (some ⟨w.heap.size, 0, none⟩) [p] := by
  subst harr
  have hB : Below w.heap.size w (w.alloc (.cells #[p.val] 62)) := (Below.refl _ _).alloc (Nat.le_refl _) _
  refine ⟨by unfold maxLen; simp, fun q hq => ?_, Or.inr ⟨w.heap.size, 0, rfl, by simp, range_new w #[p.val] 62⟩⟩
  obtain rfl := List.mem_singleton.1 hq
  exact hp.below hB
theorem range_mark (w : World) (arr : Array Value) (t : TypeId) (m : Nat × Nat) : (w.alloc (.cells arr t m)).rangeAt w.heap.size 0 arr.toList := fun j v hv => by
  rw [World.cell?_alloc_mark, Nat.zero_add]
  simpa using hv
theorem no_parts (w : World) : PartsAt w none [] := ⟨by unfold maxLen; simp, by simp, Or.inl rfl⟩
theorem sha_length (zs : List Int) : (sha zs).length = 32 := by unfold sha; rw [bytes_out, outb_length]; rfl
theorem sha_ok (zs : List Int) : ∀ z ∈ sha zs, 0 ≤ z ∧ z < 256 := by unfold sha; rw [bytes_out]; exact outb_ok _
theorem box_range (w : World) (d : List Int) (t : TypeId) : (w.alloc (.cells (v8 d).toArray t)).rangeAt w.heap.size 0 (v8 d) := by
  have := range_new w (v8 d).toArray t
  simpa using this
end Go.Proofs.YtghgomglpgidoaaGreat
namespace Go.Proofs.YtghgomglpgidoaaGreat
open Go.RowKit
open Sha Tal
theorem nil_str (w : World) : (convert 62 9 (.slice none 0 0)).run Tryz.prog w = .ok (.string (strOf [])) w := by kernel_rfl
set_option maxRecDepth 100000 in
theorem mine_str {w : World} {B : Nat} {v : Value} {zs : List Int} (h : Mine w B v zs) : (convert 62 9 v).run Tryz.prog w = .ok (.string (strOf zs)) w := by
  rcases own_range h.1 with ⟨rfl, h0, _⟩ | ⟨g, cap, rfl, _, _, _, _, hr⟩
  · have : zs = [] := List.eq_nil_of_length_eq_zero h0
    subst this
    exact nil_str w
  · exact row_str hr
theorem wr_new (w : World) : WrAt (w.alloc (.cells #[.slice none 0 0, .bool false] 64)) w.heap.size (.slice none 0 0) [] false where
  lt := by simp
  c0 := by have := range_new w #[.slice none 0 0, .bool false] 64 0 _ rfl; exact this
  c1 := by have := range_new w #[.slice none 0 0, .bool false] 64 1 _ rfl; exact this
  th := there_new w #[.slice none 0 0, .bool false] 64
  me := ⟨World.ownsRow_nil _ _ _ _, by simp⟩
/-- what Encode tells of a message that may be, or not, whose bytes are zs -/
def encV (b : Bool) (zs : List Int) : Value := if b then .tuple #[.string (strOf zs), .int .i64 0] else .tuple #[.string ⟨#[]⟩, .int .i64 130]
/-- a message's bytes are written -/
def Writes (q : List Value) (zs : List Int) : Prop := ∀ (X : Nat) (w : World), WrAt w X (.slice none 0 0) [] false → Calls Tryz.prog 22 #[.pointer (some ⟨X, 0, none⟩), .agg q.toArray] w fun e w' => ∃ v', e = .returned (.tuple #[]) ∧ WrAt w' X v' zs false ∧ Off (WrF X (.slice none 0 0)) w w' ∧ RowOn w (.slice none 0 0) v'
set_option maxRecDepth 100000 in
set_option maxHeartbeats 4000000 in
theorem enc0 (q : List Value) (b : Bool) (zs : List Int) (w : World) (hq : q.length = 119)
    (hg : ∀ w, Calls Tryz.prog 10 #[.agg q.toArray] w fun e w' => e = .returned (.bool b) ∧ Below w.heap.size w w') (hw : b = true → Writes q zs) :
    Calls Tryz.prog 8 #[.agg q.toArray] w fun e w' => e = .returned (encV b zs) ∧ Below w.heap.size w w' := by
  have hB : Below w.heap.size w (w.alloc (.cells q.toArray 37)) := (Below.refl _ _).alloc (Nat.le_refl _) _
  have hs : w.heap.size < (w.alloc (.cells q.toArray 37)).heap.size := by simp
  have hA : (w.alloc (.cells q.toArray 37)).rangeAt w.heap.size 0 q := by simpa using range_new w q.toArray 37
  have iq : (Tryz.prog.info? 37).map (·.size) = some q.length := by rw [hq]; exact iszM
  clear hq
  cases b
  · show Calls Tryz.prog 8 #[.agg q.toArray] w fun e w' => e = .returned (.tuple #[.string ⟨#[]⟩, .int .i64 130]) ∧ Below w.heap.size w w'
    clear hw
    go_enter Tryz.func8, Tryz.ntmps8
    go_upto_region 1 with fail
    go_name_world w1 hw1
    rw [show w.alloc (.cells q.toArray 37) = w1 from hw1] at hB hs hA
    clear hw1
    go_wp2_with (refine wpList_load_mid rfl 37 _ rfl _ _ rfl q _ hA Tryz.underlying37 rfl iq ?_)
    refine (hg _).mono ?_
    rintro e2 w2 ⟨rfl, hb2⟩
    have hB2 := hB.trans (hb2.mono (by omega))
    clear hA hg hB hb2
    go_wp2
    go_ret2
    exact ⟨rfl, hB2⟩
  · show Calls Tryz.prog 8 #[.agg q.toArray] w fun e w' => e = .returned (.tuple #[.string (strOf zs), .int .i64 0]) ∧ Below w.heap.size w w'
    replace hw := hw rfl
    obtain ⟨sz, hsz⟩ : ∃ sz, Hid (strOf zs = sz) := ⟨_, hide rfl⟩
    rw [hsz.out]
    go_enter Tryz.func8, Tryz.ntmps8
    go_upto_region 1 with fail
    go_name_world w1 hw1
    rw [show w.alloc (.cells q.toArray 37) = w1 from hw1] at hB hs hA
    clear hw1
    go_wp2_with (refine wpList_load_mid rfl 37 _ rfl _ _ rfl q _ hA Tryz.underlying37 rfl iq ?_)
    refine (hg _).mono ?_
    rintro e2 w2 ⟨rfl, hb2⟩
    have hB2 := hB.trans (hb2.mono (by omega))
    have hA2 := range_below hA hb2 hs
    have hs2 := Nat.lt_of_lt_of_le hs hb2.size
    clear hA hg hB hb2 hs
    go_upto_region 4 with fail
    have hN := wr_new w2
    have hB3 : Below w2.heap.size w2 (w2.alloc (.cells #[.slice none 0 0, .bool false] 64)) := (Below.refl _ _).alloc (Nat.le_refl _) _
    go_name_world w3 hw3
    rw [show w2.alloc (.cells #[.slice none 0 0, .bool false] 64) = w3 from hw3] at hN hB3
    clear hw3
    have hA3 := range_below hA2 hB3 hs2
    have hB4 := hB2.trans (hB3.mono (by omega))
    have cw := hw w2.heap.size w3 hN
    have hs3 := hN.lt
    clear hA2 hB2 hB3 hw hN
    go_wp2_with (refine wpList_load_mid rfl 37 _ rfl _ _ rfl q _ hA3 Tryz.underlying37 rfl iq ?_)
    refine cw.mono ?_
    rintro e5 w5 ⟨v5, rfl, hW5, hO5, _⟩
    have c0 := hW5.c0
    have c1 := hW5.c1
    have hcs := mine_str hW5.me
    have hB5 := hB4.trans (hO5.below (n := w.heap.size) (by omega) (fun b hb hf => by
      rcases hf with hf | hf
      · omega
      · cases hf))
    obtain ⟨a5, cap5, rfl⟩ : ∃ a cap, v5 = .slice a zs.length cap := by
      rcases own_range hW5.me.1 with ⟨rfl, h0, _⟩ | ⟨g, cap, rfl, _⟩
      · exact ⟨none, 0, by rw [h0]⟩
      · exact ⟨_, cap, rfl⟩
    rw [hsz.out] at hcs
    clear hsz cw hW5 hO5 hA3 hB4
    go_wp2
    go_ret2
    exact ⟨rfl, hB5⟩
end Go.Proofs.YtghgomglpgidoaaGreat
