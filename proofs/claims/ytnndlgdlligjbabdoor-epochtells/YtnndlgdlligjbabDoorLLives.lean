/- Ints at two rows that hold the same; raddlelaw11.Plain, lives: contracts. -/
import Derived.Test.YtnndlgdlligjbabDoorLRef2
namespace Go.Proofs.YtnndlgdlligjbabDoor.Ld
open Go.RowKit Go.Shelf
set_option maxHeartbeats 1000000 in
/-- the very same numbers: at two rows that hold the same -/
theorem ints_same (a b : Option Addr) (cap cap' : Nat) (zs : List Int) (w : World) (hr : RowI w a zs) (hs : RowI w b zs) (hb : zs.length ≤ 100000) :
    Calls Tryd.prog 15 #[.slice a zs.length cap, .slice b zs.length cap'] w fun e w' => e = .returned (.bool true) ∧ Below w.heap.size w w' := by
  go_enter Tryd.func15, Tryd.ntmps15
  go_wp2
  go_loopw [5] (fun kv wr => ∃ k : Nat, k ≤ zs.length ∧ kv = .int .i64 (k : Int) ∧ Below w.heap.size w wr) (fun kv _ => zs.length - (intOf kv).toNat)
  case atStart => exact ⟨0, by omega, rfl, Below.refl _ _⟩
  case round =>
    obtain ⟨k, hk, rfl, hbel⟩ := hrel
    by_cases hlt : k < zs.length
    · obtain ⟨b1, off1, rfl, hbb1, hcc1⟩ : ∃ b off, a = some ⟨b, off, none⟩ ∧ b < w.heap.size ∧ ∀ j, j < zs.length → w.cell? ⟨b, off + j, none⟩ = some (.int .i64 (zs[j]?.getD 0)) := by
        rcases hr.2 with rfl | h
        · simp at hlt
        · exact h
      obtain ⟨b2, off2, rfl, hbb2, hcc2⟩ : ∃ b' off, b = some ⟨b', off, none⟩ ∧ b' < w.heap.size ∧ ∀ j, j < zs.length → w.cell? ⟨b', off + j, none⟩ = some (.int .i64 (zs[j]?.getD 0)) := by
        rcases hs.2 with rfl | h
        · simp at hlt
        · exact h
      have hc1 := (hbel.cell (p := ⟨b1, off1 + k, none⟩) hbb1).trans (hcc1 k hlt)
      have hc2 := (hbel.cell (p := ⟨b2, off2 + k, none⟩) hbb2).trans (hcc2 k hlt)
      have k1 : (k : Int) < zs.length := by omega
      clear hcc1 hcc2 hr hs
      generalize zs[k]?.getD 0 = x at *
      go_wp2
      go_quiet (fail)
      go_wp2
      go_roundw
      case rel => exact ⟨k + 1, by omega, by go_num, below_drewN hbel _⟩
      case measure => simp [intOf]; omega
    · obtain rfl : k = zs.length := by omega
      go_wp2
      go_ret
      exact ⟨rfl, hbel⟩
def c0 : Cfg := ⟨4, 2, 4, 4, 2, 2, 2, 12, 1, 100⟩
theorem ex_list : listL c0 1 [] = [0, 1, 2, 3] := by decide
theorem ex_own0 : ownerI c0 1 [0, 1, 2, 3] 0 = 1 := by decide
theorem ex_own3 : ownerI c0 1 [0, 1, 2, 3] 3 = 0 := by decide
theorem ex_buckets : bucketsL c0 1 [0, 2, 3] 2 = [1, 0] := by decide
theorem ex_good : errC c0 = 0 := by decide
theorem ints_0123 : ints [0, 1, 2, 3] = [0, 1, 2, 3] := by decide
theorem ints_10 : ints [1, 0] = [1, 0] := by decide
set_option maxHeartbeats 1000000 in
theorem plain_any (w : World) : Calls Tryd.prog 23 #[] w fun e w' => e = .returned (.agg #[.int .i64 4, .int .i64 2, .int .i64 4, .int .i64 4, .int .i64 2, .int .i64 2, .int .i64 2, .int .i64 12, .int .i64 1, .int .i64 100]) ∧ Below w.heap.size w w' := by
  go_enter Tryd.func23, Tryd.ntmps23
  go_wp2_with fail
  refine bodyPost_ret (results_cell rfl _ _ _ rfl (CfgAt.load (c := c0) (World.alloc_heap_new w _))) rfl ?_
  exact ⟨rfl, (Below.refl _ _).alloc (Nat.le_refl _) _⟩
theorem row_new (w : World) (zs : List Int) (hl : zs.length ≤ 64) : RowI (w.alloc (.cells (zs.map (Value.int .i64)).toArray 3)) (some ⟨w.heap.size, 0, none⟩) zs := by
  refine ⟨by unfold maxLen; omega, .inr ⟨w.heap.size, 0, rfl, by simp, fun j hj => ?_⟩⟩
  have hc : (w.alloc (.cells (zs.map (Value.int .i64)).toArray 3)).heap[w.heap.size]? = some (.cells (zs.map (Value.int .i64)).toArray 3 (0, 0)) := World.alloc_heap_new w _
  generalize w.alloc (.cells (zs.map (Value.int .i64)).toArray 3) = w1 at hc
  simp [World.cell?, hc, hj]
end Go.Proofs.YtnndlgdlligjbabDoor.Ld
