/- pool.New -/
import Derived.Test.YtbfcbjjhdadicaaDoorP3
import Derived.Maps.OwnSet
namespace Go.Proofs.YtbfcbjjhdadicaaDoor
open Go.RowKit
open Sha Tal
def nilV : Value := .slice none 0 0
theorem made_nil (n : Nat) : (madeCells #[nilV] n).toList = List.replicate n nilV := by
  unfold madeCells
  apply List.ext_getElem
  · simp
  · intro i h1 h2
    simp [Nat.mod_one]
theorem flat_empty (n : Nat) : flatP (List.replicate n []) = [] := by
  unfold flatP
  have : (List.replicate n ([] : List Rq)).flatten = [] := by
    induction n with
    | zero => rfl
    | succ n ih => rw [List.replicate_succ, List.flatten_cons, ih]; rfl
  rw [this]; rfl
def newPl (w : World) (B : Nat) : Pl := ⟨w.heap.size + 2, w.heap.size, w.heap.size + 1, List.replicate B nilV⟩
def newW (w : World) (B R : Nat) : World := ((w.alloc (.cells (madeCells #[nilV] B) 43)).alloc (.map #[] 0)).alloc (.cells #[.int .i64 (R : Int), .slice (some ⟨w.heap.size, 0, none⟩) B B, .map (some (w.heap.size + 1))] 61)
theorem new_pool (w : World) (B R : Nat) (hB : 0 < B) (hB' : B ≤ 64) (hR : R ≤ 16) : PoolAt (newW w B R) (newPl w B) R (List.replicate B []) := by
  have s1 : (w.alloc (.cells (madeCells #[nilV] B) 43)).heap.size = w.heap.size + 1 := by simp
  have s2 : ((w.alloc (.cells (madeCells #[nilV] B) 43)).alloc (.map #[] 0)).heap.size = w.heap.size + 2 := by simp
  have r3 := range_new ((w.alloc (.cells (madeCells #[nilV] B) 43)).alloc (.map #[] 0)) #[.int .i64 (R : Int), .slice (some ⟨w.heap.size, 0, none⟩) B B, .map (some (w.heap.size + 1))] 61
  rw [s2] at r3
  have hown : ∀ v ∈ List.replicate B nilV, v.ownBlock = none := fun v hv => by rw [List.eq_of_mem_replicate hv]; rfl
  refine ⟨?_, ?_, ?_⟩
  · exact
    { c0 := r3 0 _ rfl
      c1 := by rw [List.length_replicate]; exact r3 1 _ rfl
      c2 := r3 2 _ rfl
      oc := by
        show (newW w B R).rangeAt w.heap.size 0 (List.replicate B nilV)
        have h0 := range_new w (madeCells #[nilV] B) 43
        rw [made_nil] at h0
        refine range_at h0 ?_
        unfold newW
        rw [Below.heap_alloc _ _ _ (by rw [s2]; omega), Below.heap_alloc _ _ _ (by rw [s1]; omega)]
      ot := by
        rw [List.length_replicate]
        have h0 := there_new w (madeCells #[nilV] B) 43
        rw [size_madeCells] at h0
        refine there_at h0 ?_
        show (newW w B R).heap[w.heap.size]? = _
        unfold newW
        rw [Below.heap_alloc _ _ _ (by rw [s2]; omega), Below.heap_alloc _ _ _ (by rw [s1]; omega)]
        rfl
      vl := by simp [newPl]
      rows := fun i v l hv hl => by
        have h1 := List.eq_of_mem_replicate (List.mem_of_getElem? hv)
        have h2 := List.eq_of_mem_replicate (List.mem_of_getElem? hl)
        subst h1 h2
        exact World.ownsRow_nil _ _ _ _
      rok := fun l hl => by rw [List.eq_of_mem_replicate hl]; intro r hr; cases hr
      few := fun l hl => by rw [List.eq_of_mem_replicate hl]; simp
      room := hR
      pos := by simpa using hB
      le := by simpa using hB'
      bk := fun i l hl => by rw [List.eq_of_mem_replicate (List.mem_of_getElem? hl)]; intro r hr; cases hr
      po := by simp [newPl]
      pm := by simp [newPl]
      om := by simp [newPl]
      vp := fun v hv g hg => by rw [hown v hv] at hg; cases hg
      ap := fun i j v v' g hv hv' hg hg' => by rw [hown v (List.mem_of_getElem? hv)] at hg; cases hg
      ml := by simp [newPl, newW] }
  · rw [flat_empty]
    have h1 := PairsAt.made (w.alloc (.cells (madeCells #[nilV] B) 43))
    rw [s1] at h1
    exact h1.below ((Below.refl _ _).alloc (Nat.le_refl _) _)
  · rw [flat_empty]; exact List.nodup_nil
theorem new_own (w : World) (B : Nat) : ∀ b, (newPl w B).own b → w.heap.size ≤ b := by
  rintro b (h | h | h | ⟨v, hv, hg⟩)
  · simp [newPl] at h; omega
  · simp [newPl] at h; omega
  · simp [newPl] at h; omega
  · rw [List.eq_of_mem_replicate hv] at hg; cases hg
theorem new_below (w : World) (B R : Nat) : Below w.heap.size w (newW w B R) := by
  unfold newW
  exact (((Below.refl _ _).alloc (Nat.le_refl _) _).alloc (by simp) _).alloc (by simp; omega) _
theorem infoS : (Tryd.prog.info? 43).map (fun i => (i.zero, i.size, i.bytes)) = some (some (.slice none 0 0), 1, 24) := by kernel_rfl
set_option maxRecDepth 100000 in
set_option maxHeartbeats 2000000 in
theorem new_yes (B R : Nat) (w : World) (h1 : 0 < B) (h2 : B ≤ 64) (h3 : 0 < R) (h4 : R ≤ 16) :
    Calls Tryd.prog 8 #[.int .i64 (B : Int), .int .i64 (R : Int)] w fun e w' => e = .returned (.tuple #[ptr (newPl w B), .int .i64 0]) ∧ w' = newW w B R := by
  have hmk := fun w0 => run_make_row' (P := Tryd.prog) 57 43 (.slice none 0 0) 24 Tryd.underlying57 infoS rfl .i64 .i64 B (by omega) (by omega) w0
  have a1 : ¬ (B : Int) < 1 := by omega
  have a2 : ¬ (64 : Int) < (B : Int) := by omega
  have a3 : ¬ (R : Int) < 1 := by omega
  have a4 : ¬ (16 : Int) < (R : Int) := by omega
  have hmm := @run_makeMap Tryd.prog
  unfold ptr newPl newW nilV
  clear h1 h2 h3 h4
  go_enter Tryd.func8, Tryd.ntmps8
  go_wp2_with fail
  go_ret2
  exact ⟨rfl, rfl⟩
set_option maxRecDepth 100000 in
set_option maxHeartbeats 2000000 in
theorem new_no (B R : Int) (w : World) (h : B < 1 ∨ 64 < B ∨ R < 1 ∨ 16 < R) :
    Calls Tryd.prog 8 #[.int .i64 B, .int .i64 R] w fun e w' => e = .returned (.tuple #[.pointer none, .int .i64 2]) ∧ w' = w := by
  by_cases a1 : B < 1
  · clear h
    go_enter Tryd.func8, Tryd.ntmps8
    go_wp2_with fail
    go_ret2
    exact ⟨rfl, rfl⟩
  · by_cases a2 : 64 < B
    · clear h
      go_enter Tryd.func8, Tryd.ntmps8
      go_wp2_with fail
      go_ret2
      exact ⟨rfl, rfl⟩
    · by_cases a3 : R < 1
      · clear h
        go_enter Tryd.func8, Tryd.ntmps8
        go_wp2_with fail
        go_ret2
        exact ⟨rfl, rfl⟩
      · have a4 : 16 < R := by omega
        clear h
        go_enter Tryd.func8, Tryd.ntmps8
        go_wp2_with fail
        go_ret2
        exact ⟨rfl, rfl⟩
end Go.Proofs.YtbfcbjjhdadicaaDoor
