/- leaders' penalty, List$1, List$2, from, from$1, turn; the document's penalty, In: contracts. -/
import Derived.Test.YtnndlgdlligjbabDoorLCfg
import Derived.RangeFuncBox
import Derived.RangeFuncLeaves
import Derived.RangeFuncCalls
import Derived.Shelf.Abstract
import Derived.Shelf.RegionOpen
import Derived.OwnWalkIn
import Derived.TacticsInMore
import Derived.LoopNIn
import Derived.LoopIn
import Derived.Maps.AppendAt
import Derived.Deep.QuietTactic
import Derived.BigQuiet
namespace Go.Proofs.YtnndlgdlligjbabDoor.Ld
open Go.RowKit Go.Shelf
attribute [local go_sem] Oper.semAt_some
theorem info3 : (Tryd.prog.info? 3).map (fun i => (i.zero, i.size, i.bytes)) = some (some (.int .i64 0), 1, 8) := by kernel_rfl
theorem info4 : (Tryd.prog.info? 4).map (fun i => (i.zero, i.size, i.bytes)) = some (some (.bool false), 1, 1) := by kernel_rfl
theorem mixed : Tryd.prog.follows .mixedOrders = true := by kernel_rfl
theorem rowI_cell {w wr : World} {a : Option Addr} {zs : List Int} (h : RowI w a zs) (hB : Below w.heap.size w wr) {k : Nat} (hk : k < zs.length) : ∃ b off, a = some ⟨b, off, none⟩ ∧ wr.cell? ⟨b, off + k, none⟩ = some (.int .i64 zs[k]) := by
  rcases h.2 with rfl | ⟨b, off, rfl, hb, hc⟩
  · simp at hk
  · refine ⟨b, off, rfl, ?_⟩
    rw [hB.cell (p := ⟨b, off + k, none⟩) hb, hc k hk, List.getElem?_eq_getElem hk]; rfl
theorem penI_in {zs : List Int} {k : Nat} (h : k < zs.length) : penI zs k = zs[k] := by simp [penI, h]
theorem penI_out {zs : List Int} {k : Nat} (h : ¬ k < zs.length) : penI zs k = 0 := by simp [penI, Nat.ge_of_not_lt h]
theorem penalty_any (a : Option Addr) (cap : Nat) (zs : List Int) (k : Nat) (w : World) (hr : RowI w a zs) :
    Calls Tryd.prog 57 #[.slice a zs.length cap, .int .i64 (k : Int)] w fun e w' => e = .returned (.int .i64 (penI zs k)) ∧ w' = w := by
  by_cases h : k < zs.length
  · rw [penI_in h]
    obtain ⟨b, off, rfl, hc⟩ := rowI_cell hr (Below.refl _ _) h
    have k1 : (k : Int) < zs.length := by omega
    generalize zs[k] = x at *
    go_enter Tryd.func57, Tryd.ntmps57
    go_wp2
    go_ret
    exact ⟨rfl, rfl⟩
  · rw [penI_out h]
    go_enter Tryd.func57, Tryd.ntmps57
    go_wp2
    go_ret
    exact ⟨rfl, rfl⟩
set_option maxHeartbeats 1000000 in
theorem list1_any (Bp Be : Nat) (a : Option Addr) (cap : Nat) (zs : List Int) (x : Int) (k : Nat) (w : World) (hr : RowI w a zs) (hp : w.cell? ⟨Bp, 0, none⟩ = some (.slice a zs.length cap)) (he : w.cell? ⟨Be, 0, none⟩ = some (.int .i64 x)) :
    Calls Tryd.prog 56 #[.int .i64 (k : Int), .pointer (some ⟨Bp, 0, none⟩), .pointer (some ⟨Be, 0, none⟩)] w fun e w' => e = .returned (.bool (decide (penI zs k ≤ x))) ∧ Below w.heap.size w w' := by
  have c1 := fun (n : Nat) => penalty_any a cap zs k (w.drewN n) (hr.below (below_drewN (Below.refl _ w) n))
  generalize penI zs k = p at *
  clear hr
  go_enter Tryd.func56, Tryd.ntmps56
  go_wp2
  go_quiet (exact Calls.quiet_of_same (c1 _))
  go_wp2
  go_ret
  exact ⟨rfl, below_drewN (Below.refl _ w) _⟩
theorem list2_any (k : Int) (w : World) : Calls Tryd.prog 59 #[.int .i64 k] w fun e w' => e = .returned (.bool true) ∧ w' = w := by
  go_enter Tryd.func59, Tryd.ntmps59
  go_wp2
  go_ret
  exact ⟨rfl, rfl⟩
theorem from_any (N f : Int) (w : World) :
    Calls Tryd.prog 60 #[.int .i64 N, .int .i64 f] w fun e w' => e = .returned (.func (.func 72) #[] #[.pointer (some ⟨w.heap.size, 0, none⟩), .pointer (some ⟨w.heap.size + 1, 0, none⟩)]) ∧ w' = (w.alloc (.cells #[.int .i64 N] 3)).alloc (.cells #[.int .i64 f] 3) := by
  go_enter Tryd.func60, Tryd.ntmps60
  go_wp2
  go_ret
  exact ⟨rfl, rfl⟩
theorem from_in (F : Fence) (n : Nat) (hfn : F.fn 60) (hro : F.round = none) (N f : Int) (w : World) :
    CallsIn F n Tryd.prog 60 #[.int .i64 N, .int .i64 f] w fun e w' => e = .returned (.func (.func 72) #[] #[.pointer (some ⟨w.heap.size, 0, none⟩), .pointer (some ⟨w.heap.size + 1, 0, none⟩)]) ∧ w' = (w.alloc (.cells #[.int .i64 N] 3)).alloc (.cells #[.int .i64 f] 3) := by
  refine callsIn_of_wp Tryd.func60 rfl hfn ?_ hro
  simp only [Tryd.ntmps60, List.size_toArray, List.length_cons, List.length_nil, Nat.reduceAdd, Nat.reduceSub, Array.replicate_succ, Array.replicate_zero, List.push_toArray, List.append_toArray, List.nil_append, List.cons_append]
  gi_wp2
  go_ret
  exact ⟨rfl, rfl⟩
theorem rem_cast (f k N : Nat) : ((f : Int) + (k : Int)) % (N : Int) = (((f + k) % N : Nat) : Int) := by simp
set_option maxRecDepth 100000 in
set_option maxHeartbeats 2000000 in
theorem from1_in (F : Fence) (n : Nat) (h29 : F.fn 72) (hro : F.round = none) (hn : 2 ≤ n) (N f : Nat) (hN : 1 ≤ N) (hN64 : N ≤ 64) (hf : f ≤ 2000000) (l Bn Bf : Nat) (Kp : World → World → Prop) (hKr : ∀ A, Kp A A) (hKt : ∀ {A B C : World}, Kp A B → Kp B C → Kp A C)
    (hKn : ∀ {A B : World}, Kp A B → A.cell? ⟨Bn, 0, none⟩ = some (.int .i64 (N : Int)) → B.cell? ⟨Bn, 0, none⟩ = some (.int .i64 (N : Int)))
    (hKf : ∀ {A B : World}, Kp A B → A.cell? ⟨Bf, 0, none⟩ = some (.int .i64 (f : Int)) → B.cell? ⟨Bf, 0, none⟩ = some (.int .i64 (f : Int))) (J Jx : List Nat → World → Prop)
    (hY : ∀ (pre : List Nat) (x : Nat) (W : World), J pre W → pre.length < 64 → YieldAt F (n - 1) Tryd.prog l #[.int .i64 (x : Int)] W fun e W' =>
      (e = .returned (.bool true) ∧ J (pre ++ [x]) W' ∧ Kp W W') ∨ (e = .returned (.bool false) ∧ Jx (pre ++ [x]) W'))
    (W : World) (hBn : W.cell? ⟨Bn, 0, none⟩ = some (.int .i64 (N : Int))) (hBf : W.cell? ⟨Bf, 0, none⟩ = some (.int .i64 (f : Int))) (h0 : J [] W) :
    CallsIn F n Tryd.prog 72 #[.func (.yield l) #[] #[], .pointer (some ⟨Bn, 0, none⟩), .pointer (some ⟨Bf, 0, none⟩)] W fun e W' => (∃ v, e = .returned v) ∧
      ((∃ ys, ys = roundF N f N ∧ J ys W') ∨ (∃ pre, pre <+: roundF N f N ∧ Jx pre W')) := by
  have h1 : 1 ≤ n := by omega
  have h1' : 1 ≤ n - 1 := by omega
  have hmx := mixed
  refine callsIn_of_wp Tryd.func72 rfl h29 ?_ hro
  simp only [Tryd.ntmps72, List.size_toArray, List.length_cons, List.length_nil, Nat.reduceAdd, Nat.reduceSub, Array.replicate_succ, Array.replicate_zero, List.push_toArray, List.append_toArray, List.nil_append, List.cons_append]
  gi_wp2
  gi_loopw [6] (fun i wr => ∃ k : Nat, k ≤ N ∧ i = .int .i64 (k : Int) ∧ J (roundF N f k) wr ∧ Kp W wr)
    (fun i _ => N - (intOf i).toNat)
  case atStart => exact ⟨0, Nat.zero_le _, rfl, h0, hKr _⟩
  case round =>
    obtain ⟨k, hk, rfl, hJs, hnx⟩ := hrel
    have hcn : wr.cell? ⟨Bn, 0, none⟩ = some (.int .i64 (N : Int)) := hKn hnx hBn
    have hcf : wr.cell? ⟨Bf, 0, none⟩ = some (.int .i64 (f : Int)) := hKf hnx hBf
    by_cases hlt' : k < N
    · have HU := hide (roundF_snoc N f k)
      have hlen := roundF_len N f k
      have hY3 := hY _ ((f + k) % N) wr hJs (by omega)
      rw [← rem_cast] at hY3
      obtain ⟨fn, tmps, assign, body, hy, hR⟩ := hY3
      gi_wp2
      refine hR.mono ?_
      rintro e W3 (⟨rfl, hJ3, hk3⟩ | ⟨rfl, hJx3⟩)
      · gi_wp2
        go_roundw
        case rel => exact ⟨k + 1, by omega, by go_num, by rw [HU.out]; exact hJ3, hKt hnx hk3⟩
        case measure => simp [intOf]; omega
      · gi_wp2
        refine bodyPost_ret (results_none rfl _ _ _) rfl ?_
        exact ⟨⟨_, rfl⟩, .inr ⟨_, by rw [← HU.out]; exact roundF_prefix _ _ _ _ (by omega), hJx3⟩⟩
    · obtain rfl : k = N := by omega
      gi_wp2
      go_end0
      exact ⟨⟨_, rfl⟩, .inl ⟨_, rfl, hJs⟩⟩
set_option maxHeartbeats 1000000 in
theorem turn_any (c : Cfg) (N E b : Nat) (hn : c.n = (N : Int)) (hN : 1 ≤ N) (hE : E ≤ 2000000) (hb : b ≤ 64) (w : World) :
    Calls Tryd.prog 47 #[(.agg #[.int .i64 c.n, .int .i64 c.cl, .int .i64 c.wi, .int .i64 c.bu, .int .i64 c.ca, .int .i64 c.sl, .int .i64 c.rq, .int .i64 c.ti, .int .i64 c.pe, .int .i64 c.la]), .int .i64 (E : Int), .int .i64 (b : Int)] w fun e w' => e = .returned (.int .i64 (((b + E) % N : Nat) : Int)) ∧ Below w.heap.size w w' := by
  have hb0 : Below w.heap.size w (w.alloc (.cells #[.int .i64 c.n, .int .i64 c.cl, .int .i64 c.wi, .int .i64 c.bu, .int .i64 c.ca, .int .i64 c.sl, .int .i64 c.rq, .int .i64 c.ti, .int .i64 c.pe, .int .i64 c.la] 23)) := (Below.refl _ _).alloc (Nat.le_refl _) _
  rw [← rem_cast]
  rw [hn] at *
  go_enter Tryd.func47, Tryd.ntmps47
  go_wp2
  go_ret
  exact ⟨rfl, hb0⟩
set_option maxHeartbeats 1000000 in
theorem rIn_any (a : Option Addr) (cap : Nat) (zs : List Int) (x : Int) (w : World) (hr : RowI w a zs) (hl : zs.length ≤ 100000) :
    Calls Tryd.prog 33 #[.slice a zs.length cap, .int .i64 x] w fun e w' => e = .returned (.bool (decide (x ∈ zs))) ∧ w' = w := by
  go_enter Tryd.func33, Tryd.ntmps33
  go_wp2
  go_loop [5] (fun kv => ∃ k : Nat, k ≤ zs.length ∧ kv = .int .i64 (k : Int) ∧ Hid (x ∉ zs.take k)) (fun kv => zs.length - (intOf kv).toNat)
  case atStart => exact ⟨0, by omega, rfl, hide (by simp)⟩
  case round =>
    obtain ⟨k, hk, rfl, HN⟩ := hrel
    by_cases hlt : k < zs.length
    · obtain ⟨b, off, rfl, hc⟩ := rowI_cell hr (Below.refl _ _) hlt
      have k1 : (k : Int) < zs.length := by omega
      have HM := hide (List.getElem_mem hlt)
      have HT := hide (List.take_succ_eq_append_getElem hlt)
      generalize zs[k] = y at *
      by_cases hxy : y = x
      · subst hxy
        go_wp2
        go_ret
        exact ⟨ret_bool (by rw [decide_eq_true HM.out]), rfl⟩
      · go_wp2
        go_round
        case rel => exact ⟨k + 1, by omega, by go_num, hide (by rw [HT.out]; simp; exact ⟨HN.out, fun h => hxy h.symm⟩)⟩
        case measure => simp [intOf]; omega
    · obtain rfl : k = zs.length := by omega
      go_wp2
      go_ret
      exact ⟨ret_bool (by have := HN.out; rw [List.take_length] at this; rw [decide_eq_false this]), rfl⟩
end Go.Proofs.YtnndlgdlligjbabDoor.Ld
