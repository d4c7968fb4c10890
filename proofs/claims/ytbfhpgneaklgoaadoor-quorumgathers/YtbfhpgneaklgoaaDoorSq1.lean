/- quorum.signed: the contract -/
import Derived.Test.YtbfhpgneaklgoaaDoorSg4
import Derived.Test.YtbfhpgneaklgoaaDoorRKeys
namespace Go.Proofs.YtbfhpgneaklgoaaDoor
open Go.RowKit
open Sha Tal
theorem eqSg (r r' : Sg) (h : r.ok) (h' : r'.ok) (w : World) :
    (binOp .eql 43 (.agg r.cells.toArray) (.agg r'.cells.toArray)).run Tryd.prog w = .ok (.bool (sgB r r')) w := by
  obtain ⟨n, t⟩ := r
  obtain ⟨n', t'⟩ := r'
  rw [run_eql_struct, sgEqIn 9997 n t n' t' h.tl h'.tl]; rfl
theorem fold_off : ∀ (u : List Value) (k : Nat) (arr : Array Value), List.foldl (fun (cs : Array Value) (x : Value × Nat) => cs.setIfInBounds (1 + x.snd) x.fst) arr (u.zipIdx k) = List.foldl (fun (cs : Array Value) (x : Value × Nat) => cs.setIfInBounds x.snd x.fst) arr (u.zipIdx (k + 1))
  | [], _, _ => rfl
  | a :: u, k, arr => by
    rw [List.zipIdx_cons, List.zipIdx_cons, List.foldl_cons, List.foldl_cons, Nat.add_comm 1 k]
    exact fold_off u (k + 1) _
theorem fold_tag (N : Int) (r : List Int) (hl : r.length = 16) : List.foldl (fun (cs : Array Value) (x : Value × Nat) => cs.setIfInBounds (1 + x.snd) x.fst)
    #[.int .i64 N, .int .u8 0, .int .u8 0, .int .u8 0, .int .u8 0, .int .u8 0, .int .u8 0, .int .u8 0, .int .u8 0, .int .u8 0, .int .u8 0, .int .u8 0, .int .u8 0, .int .u8 0, .int .u8 0, .int .u8 0, .int .u8 0] (v8 r).zipIdx = (.int .i64 N :: v8 r).toArray := by
  rw [fold_off, fold_setsS (v8 r) (0 + 1) _ (by rw [v8_length, hl]; rfl)]
  rfl
set_option maxRecDepth 100000 in
set_option maxHeartbeats 2000000 in
theorem signed_any (p : Option Addr) (ds : List (List Int)) (body : ByteArray) (s : Sg) (w : World) (hG : Glob w) (h : KeysAt w p ds) (hb : ds = [] ∨ body.size ≤ 100000) (hs : s.ok) :
    Calls Tryd.prog 38 #[.pointer p, .string body, .agg s.cells.toArray] w fun e w' => e = .returned (.bool (checkOf (signOf ds s.n body) s.t)) ∧ Below w.heap.size w w' := by
  have hB0 : Below w.heap.size w (w.alloc (.cells s.cells.toArray 43)) := (Below.refl _ _).alloc (Nat.le_refl _) _
  have hR0 : (w.alloc (.cells s.cells.toArray 43)).rangeAt w.heap.size 0 s.cells := by simpa using range_new w s.cells.toArray 43
  have cs := ksign_any p ds s.n body _ (hG.below hB0) (h.below hB0) hb
  have hl := signOf_length ds s.n body
  have hlo := signOf_ok ds s.n body
  unfold checkOf
  obtain ⟨r, hr⟩ : ∃ r, Hid ((signOf ds s.n body).1 = r) := ⟨_, hide rfl⟩
  obtain ⟨x, hx⟩ : ∃ x, Hid ((signOf ds s.n body).2 = x) := ⟨_, hide rfl⟩
  rw [hr.out, hx.out] at cs ⊢
  rw [hr.out] at hl hlo
  have heq := fun w0 => eqSg s ⟨s.n, r⟩ hs ⟨hl, hlo, hs.nl, hs.nh⟩ w0
  have HE : Hid (sgB s ⟨s.n, r⟩ = (r == s.t)) := hide (by
    obtain ⟨n, t⟩ := s
    simp only [sgB, beq_self_eq_true, Bool.true_and]
    exact BEq.comm)
  have hcells : (Sg.mk s.n r).cells = .int .i64 s.n :: v8 r := rfl
  simp only [hcells] at heq
  obtain ⟨B, hBe⟩ : ∃ B, Hid (sgB s ⟨s.n, r⟩ = B) := ⟨_, hide rfl⟩
  simp only [hBe.out] at heq
  rw [hBe.out] at HE
  have hfr := Sg.first hR0
  have hiq := hs.isz
  have hul := hs.length
  obtain ⟨N, hN⟩ : ∃ N, Hid (s.n = N) := ⟨_, hide rfl⟩
  obtain ⟨u, hu⟩ : ∃ u, Hid (s.cells = u) := ⟨_, hide rfl⟩
  rw [hu.out] at hB0 hR0 hfr hiq hul cs ⊢
  simp only [hu.out, hN.out] at heq
  rw [hN.out] at cs hfr
  obtain ⟨T, hT⟩ : ∃ T, Hid (s.t = T) := ⟨_, hide rfl⟩
  rw [hT.out] at HE ⊢
  clear hb hu hN hcells hs hBe hr hx hT
  go_enter Tryd.func38, Tryd.ntmps38
  go_wp2_with fail
  refine cs.mono ?_
  rintro e w1 ⟨rfl, hw1⟩
  clear cs
  have hB1 := hB0.trans (hw1.mono hB0.size)
  have hs1 := hw1.size
  simp only [World.size_alloc] at hs1
  have hR1 := range_below hR0 hw1 (by simp)
  have hfr1 := (hw1.cell (p := ⟨w.heap.size, 0, none⟩) (by simp)).trans hfr
  have FS := fresh_store w1 (Array.replicate 16 (.int .u8 0)) 38 (v8 r) (by rw [v8_length, hl]; rfl)
  have hN : (w1.alloc (.cells (Array.replicate 16 (.int .u8 0)) 38)).there w1.heap.size 0 (v8 r).toArray.size := by
    have e : (v8 r).toArray.size = 16 := by rw [List.size_toArray, v8_length, hl]
    rw [e]; exact (new_bytes w1 16 38).2
  have hi := info16 r hl
  have h1c := all_oneCell_toArray (v8_one r)
  clear hfr
  go_upto_region 2 with (refine wpList_store_mid (op := ⟨none, .store 38 (.tmp 7) (.tmp 15), _, _, _, none⟩) rfl 38 _ _ rfl _ _ (v8 r).toArray rfl rfl hN hi h1c ?_)
  go_name_world w4 hw4
  rw [show (w1.alloc (.cells (Array.replicate 16 (.int .u8 0)) 38)).setCells w1.heap.size 0 (v8 r) = w4 from hw4] at FS
  obtain ⟨hR4, hB4', hz4', _⟩ := FS
  have hz4 : w1.heap.size < w4.heap.size := by omega
  clear hz4' hw4 hN h1c hw1 hR0
  have hB4 := hB1.trans (hB4'.mono hB1.size)
  have hR1' := range_below hR1 hB4' (by omega)
  have hfr4 := (hB4'.cell (p := ⟨w.heap.size, 0, none⟩) (by show w.heap.size < w1.heap.size; omega)).trans hfr1
  have hl16 : (Tryd.prog.info? 38).map (·.size) = some (v8 r).length := by simpa using hi
  try simp only [Act.put]
  clear hi
  clear hR1 hB4' hfr1
  by_cases hx0 : x = 0
  · subst hx0
    refine wp_region_list ?_
    refine wpList_plain rfl fun K hK => ?_
    go_simp
    refine hK _ _ ?_
    clear hK K
    refine wpList_plain rfl fun K hK => ?_
    go_simp
    refine hK _ _ ?_
    clear hK K
    refine wpList_plain rfl fun K hK => ?_
    go_simp
    refine hK _ _ ?_
    clear hK K
    refine wpList_load_g (by rfl) 43 _ rfl _ _ rfl u _ hR1' Tryd.underlying43 rfl hiq ?_
    refine wpList_step fun K hK => ?_
    go_simp
    refine hK _ _ ?_
    clear hK K
    refine wpList_step fun K hK => ?_
    go_simp
    refine hK _ _ ?_
    clear hK K
    refine wpList_load_g (by rfl) 38 _ rfl _ _ rfl (v8 r) _ hR4 Tryd.underlying38 rfl hl16 ?_
    refine wpList_step fun K hK => ?_
    go_simp
    refine hK _ _ ?_
    clear hK K
    rw [fold_tag N r hl]
    refine wpList_step fun K hK => ?_
    go_simp
    try rw [heq]
    try go_simp
    refine hK _ _ ?_
    clear hK K
    go_wp2
    go_ret
    exact ⟨by rw [HE.out]; simp, hB4⟩
  · have hx1 : (x == 0) = false := by simpa using hx0
    go_wp2
    go_ret
    exact ⟨by simp [hx0], hB4⟩
end Go.Proofs.YtbfhpgneaklgoaaDoor
