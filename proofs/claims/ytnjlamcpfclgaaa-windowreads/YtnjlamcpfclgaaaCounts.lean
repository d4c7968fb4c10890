/- mask.All, Ones, Many, raddlelaw08.all: contracts. -/
import Derived.Test.YtnjlamcpfclgaaaAsLong
namespace Go.Proofs.Ytnjlamcpfclgaaa
open Go.RowKit Go.Shelf
attribute [local go_sem] Oper.semAt_some
theorem fits_range {l : List Nat} (h : Fits (fun k x => decide (x = k)) l) : l = List.range l.length := by
  apply List.ext_getElem (by simp)
  intro k h1 h2
  have := of_decide_eq_true (h k h1)
  rw [List.getElem_range]; exact this
theorem longest_ones {m : Nat} {l : List Nat} (h : Longest (fun k x => decide (x = k)) (setN m) l) : onesN m = l.length := by
  have hl := fits_range h.1
  rcases h.2 with e | ⟨x, hp, hx⟩
  · exact ones_done (by rw [← e]; exact hl)
  · refine ones_stop (x := x) (by rw [← hl]; exact hp) (of_decide_eq_false hx)
theorem longest_many {m : Nat} {l : List Nat} (h : Longest (fun _ _ => true) (setN m) l) : l = setN m := by
  rcases h.2 with e | ⟨x, hp, hx⟩
  · exact e
  · cases hx
set_option maxHeartbeats 400000 in
theorem all_iter_in (F : Fence) (n : Nat) (hf : F.fn 50) (hro : F.round = none) (m : Nat) (w : World) :
    CallsIn F n Try.prog 50 #[.int .u64 (m : Int)] w fun e w' => e = .returned (.func (.func 60) #[] #[.pointer (some ⟨w.heap.size, 0, none⟩)]) ∧ w' = w.alloc (.cells #[.int .u64 (m : Int)] 22) := by
  refine callsIn_of_wp Try.func50 rfl hf ?_ hro
  simp only [Try.ntmps50, List.size_toArray, List.length_cons, List.length_nil, Nat.reduceAdd, Nat.reduceSub, Array.replicate_succ, Array.replicate_zero, List.push_toArray, List.append_toArray, List.nil_append, List.cons_append]
  gi_wp2
  go_ret
  exact ⟨rfl, rfl⟩
theorem all_iter_any (m : Nat) (w : World) :
    Calls Try.prog 50 #[.int .u64 (m : Int)] w fun e w' => e = .returned (.func (.func 60) #[] #[.pointer (some ⟨w.heap.size, 0, none⟩)]) ∧ w' = w.alloc (.cells #[.int .u64 (m : Int)] 22) :=
  (callsIn_wide (n := 8)).1 (all_iter_in _ 8 trivial rfl m w)
theorem ones1_in (F : Fence) (n : Nat) (hf : F.fn 59) (hro : F.round = none) (k x : Nat) (w : World) :
    CallsIn F n Try.prog 59 #[.int .i64 (k : Int), .int .i64 (x : Int)] w fun e w' => e = .returned (.bool (decide (x = k))) ∧ w' = w := by
  refine callsIn_of_wp Try.func59 rfl hf ?_ hro
  simp only [Try.ntmps59, List.size_toArray, List.length_cons, List.length_nil, Nat.reduceAdd, Nat.reduceSub, Array.replicate_succ, Array.replicate_zero, List.push_toArray, List.append_toArray, List.nil_append, List.cons_append]
  gi_wp2
  go_ret
  exact ⟨ret_bool (by rw [Bool.eq_iff_iff]; simp; omega), rfl⟩
theorem many1_in (F : Fence) (n : Nat) (hf : F.fn 51) (hro : F.round = none) (k x : Nat) (w : World) :
    CallsIn F n Try.prog 51 #[.int .i64 (k : Int), .int .i64 (x : Int)] w fun e w' => e = .returned (.bool true) ∧ w' = w := by
  refine callsIn_of_wp Try.func51 rfl hf ?_ hro
  simp only [Try.ntmps51, List.size_toArray, List.length_cons, List.length_nil, Nat.reduceAdd, Nat.reduceSub, Array.replicate_succ, Array.replicate_zero, List.push_toArray, List.append_toArray, List.nil_append, List.cons_append]
  gi_wp2
  go_ret
  exact ⟨rfl, rfl⟩
theorem boxU (m : Nat) (w : World) : (w.alloc (.cells #[.int .u64 (m : Int)] 22)).cell? ⟨w.heap.size, 0, none⟩ = some (.int .u64 (m : Int)) := (Boxed.new w 22 (.int .u64 (m : Int))).cell
theorem asLongO_any (Bs : Nat) (m : Nat) (hm : m < 2 ^ 64) (w : World) (hBs : Bs < w.heap.size) (hcB : w.cell? ⟨Bs, 0, none⟩ = some (.int .u64 (m : Int))) :
    Calls Try.prog 49 #[.func (.func 60) #[] #[.pointer (some ⟨Bs, 0, none⟩)], .func (.func 59) #[] #[]] w fun e W' => ∃ v l, e = .returned v ∧ Longest (fun k x => decide (x = k)) (setN m) l ∧ W'.ownsRow w.heap.size 3 1 v l.length (vals l) ∧ Below w.heap.size w W' :=
  (callsIn_wide (n := 8)).1 (asLongO_in _ 8 trivial trivial trivial trivial rfl (by decide) trivial _ (fun k x W => ones1_in _ _ trivial rfl k x W) Bs m hm w hBs hcB)
theorem asLongM_any (Bs : Nat) (m : Nat) (hm : m < 2 ^ 64) (w : World) (hBs : Bs < w.heap.size) (hcB : w.cell? ⟨Bs, 0, none⟩ = some (.int .u64 (m : Int))) :
    Calls Try.prog 49 #[.func (.func 60) #[] #[.pointer (some ⟨Bs, 0, none⟩)], .func (.func 51) #[] #[]] w fun e W' => ∃ v l, e = .returned v ∧ Longest (fun _ _ => true) (setN m) l ∧ W'.ownsRow w.heap.size 3 1 v l.length (vals l) ∧ Below w.heap.size w W' :=
  (callsIn_wide (n := 8)).1 (asLongM_in _ 8 trivial trivial trivial trivial rfl (by decide) trivial _ (fun k x W => many1_in _ _ trivial rfl k x W) Bs m hm w hBs hcB)
set_option maxHeartbeats 400000 in
theorem ones_any (m : Nat) (hm : m < 2 ^ 64) (w : World) :
    Calls Try.prog 47 #[.int .u64 (m : Int)] w fun e w' => e = .returned (.int .i64 (onesN m : Int)) ∧ Below w.heap.size w w' := by
  have c := all_iter_any m w
  have c2 := asLongO_any w.heap.size m hm (w.alloc (.cells #[.int .u64 (m : Int)] 22)) (by simp) (boxU m w)
  have hb0 : Below w.heap.size w (w.alloc (.cells #[.int .u64 (m : Int)] 22)) := (Below.refl _ _).alloc (Nat.le_refl _) _
  obtain ⟨w1, hw1⟩ : ∃ w1, w.alloc (.cells #[.int .u64 (m : Int)] 22) = w1 := ⟨_, rfl⟩
  rw [hw1] at c c2 hb0
  clear hw1
  go_enter Try.func47, Try.ntmps47
  go_wp2_with (first | (go_at_call 50; refine c.mono ?_; rintro e w3 ⟨rfl, hx⟩; obtain rfl := hx.symm; clear hx) | (go_at_call 49; refine c2.mono ?_; rintro e w2 ⟨v, l, rfl, hl, hrow, hb⟩; obtain ⟨va, vcap, rfl⟩ := ownsRow_slice hrow; have HL := hide (longest_ones hl); clear hl))
  go_ret
  exact ⟨ret_int (by rw [HL.out]), hb0.trans (hb.mono hb0.size)⟩
set_option maxHeartbeats 400000 in
theorem many_any (m : Nat) (hm : m < 2 ^ 64) (w : World) :
    Calls Try.prog 39 #[.int .u64 (m : Int)] w fun e w' => e = .returned (.int .i64 ((setN m).length : Int)) ∧ Below w.heap.size w w' := by
  have c := all_iter_any m w
  have c2 := asLongM_any w.heap.size m hm (w.alloc (.cells #[.int .u64 (m : Int)] 22)) (by simp) (boxU m w)
  have hb0 : Below w.heap.size w (w.alloc (.cells #[.int .u64 (m : Int)] 22)) := (Below.refl _ _).alloc (Nat.le_refl _) _
  obtain ⟨w1, hw1⟩ : ∃ w1, w.alloc (.cells #[.int .u64 (m : Int)] 22) = w1 := ⟨_, rfl⟩
  rw [hw1] at c c2 hb0
  clear hw1
  go_enter Try.func39, Try.ntmps39
  go_wp2_with (first | (go_at_call 50; refine c.mono ?_; rintro e w3 ⟨rfl, hx⟩; obtain rfl := hx.symm; clear hx) | (go_at_call 49; refine c2.mono ?_; rintro e w2 ⟨v, l, rfl, hl, hrow, hb⟩; obtain ⟨va, vcap, rfl⟩ := ownsRow_slice hrow; have HL := hide (longest_many hl); clear hl))
  go_ret
  exact ⟨ret_int (by rw [HL.out]), hb0.trans (hb.mono hb0.size)⟩
end Go.Proofs.Ytnjlamcpfclgaaa
