/- mask.All, asLong, Ones, Many, raddlelaw08.all: contracts. -/
import Derived.Test.YtnjlamcpfclgaaaLeaf
namespace Go.Proofs.Ytnjlamcpfclgaaa
open Go.RowKit Go.Shelf
attribute [local go_sem] Oper.semAt_some
theorem info3 : (Try.prog.info? 3).map (fun i => (i.zero, i.size, i.bytes)) = some (some (.int .i64 0), 1, 8) := by kernel_rfl
theorem mixed : Try.prog.follows .mixedOrders = true := by kernel_rfl
set_option maxRecDepth 100000 in
set_option maxHeartbeats 2000000 in
theorem all1_in (F : Fence) (n : Nat) (h29 : F.fn 60) (h8 : F.fn 38) (h24 : F.fn 46) (hro : F.round = none) (hn : 2 ≤ n) (m : Nat) (l Bs : Nat) (Kp : World → World → Prop) (hKr : ∀ A, Kp A A) (hKt : ∀ {A B C : World}, Kp A B → Kp B C → Kp A C) (hKc : ∀ {A B : World}, Kp A B → A.cell? ⟨Bs, 0, none⟩ = some (.int .u64 (m : Int)) → B.cell? ⟨Bs, 0, none⟩ = some (.int .u64 (m : Int))) (hm : m < 2 ^ 64) (J Jx : List Nat → World → Prop)
    (hY : ∀ (pre : List Nat) (x : Nat) (W : World), J pre W → pre.length < 64 → YieldAt F (n - 1) Try.prog l #[.int .i64 (x : Int)] W fun e W' =>
      (e = .returned (.bool true) ∧ J (pre ++ [x]) W' ∧ Kp W W') ∨ (e = .returned (.bool false) ∧ Jx (pre ++ [x]) W'))
    (W : World) (hBs : W.cell? ⟨Bs, 0, none⟩ = some (.int .u64 (m : Int))) (h0 : J [] W) :
    CallsIn F n Try.prog 60 #[.func (.yield l) #[] #[], .pointer (some ⟨Bs, 0, none⟩)] W fun e W' => (∃ v, e = .returned v) ∧
      ((∃ ys, ys = setN m ∧ J ys W') ∨ (∃ pre, pre <+: setN m ∧ Jx pre W')) := by
  have h1 : 1 ≤ n := by omega
  have h1' : 1 ≤ n - 1 := by omega
  have hmx := mixed
  refine callsIn_of_wp Try.func60 rfl h29 ?_ hro
  simp only [Try.ntmps60, List.size_toArray, List.length_cons, List.length_nil, Nat.reduceAdd, Nat.reduceSub, Array.replicate_succ, Array.replicate_zero, List.push_toArray, List.append_toArray, List.nil_append, List.cons_append]
  gi_wp2
  gi_loopw [4] (fun i wr => ∃ k : Nat, k ≤ 64 ∧ i = .int .i64 (k : Int) ∧ J (setUp m k) wr ∧ Kp W wr)
    (fun i _ => 64 - (intOf i).toNat)
  case atStart => exact ⟨0, Nat.zero_le _, rfl, h0, hKr _⟩
  case round =>
    obtain ⟨k, hk, rfl, hJs, hnx⟩ := hrel
    have hc : wr.cell? ⟨Bs, 0, none⟩ = some (.int .u64 (m : Int)) := hKc hnx hBs
    by_cases hlt' : k < 64
    · have ch := has_in F (n - 1) h8 h24 hro h1' m hm (k : Int)
      rw [hasN_cast _ _ hlt'] at ch
      cases hb : m.testBit k
      · rw [hb] at ch
        have HU := hide (setUp_no hb)
        clear hb hY
        gi_wp2_with (gi_at_call 38; refine (ch _).mono ?_; rintro e w1 ⟨rfl, hx⟩; obtain rfl := hx.symm; clear hx)
        refine ⟨fun f h => (by cases h), ?_⟩
        gi_wp2
        go_roundw
        case rel => exact ⟨k + 1, by omega, by go_num, by rw [HU.out]; exact hJs, hnx⟩
        case measure => simp [intOf]; omega
      · rw [hb] at ch
        have HU := hide (setUp_yes hb)
        clear hb
        obtain ⟨fn, tmps, assign, body, hy, hR⟩ := hY _ k wr hJs (by have := setUp_len m k; omega)
        gi_wp2_with (gi_at_call 38; refine (ch _).mono ?_; rintro e w1 ⟨rfl, hx⟩; obtain rfl := hx.symm; clear hx)
        refine hR.mono ?_
        rintro e W3 (⟨rfl, hJ3, hk3⟩ | ⟨rfl, hJx3⟩)
        · gi_wp2
          go_roundw
          case rel => exact ⟨k + 1, by omega, by go_num, by rw [HU.out]; exact hJ3, hKt hnx hk3⟩
          case measure => simp [intOf]; omega
        · gi_wp2
          refine bodyPost_ret (results_none rfl _ _ _) rfl ?_
          exact ⟨⟨_, rfl⟩, .inr ⟨_, by rw [← HU.out]; exact setUp_prefix m (by omega), hJx3⟩⟩
    · obtain rfl : k = 64 := by omega
      gi_wp2
      go_end0
      exact ⟨⟨_, rfl⟩, .inl ⟨_, rfl, hJs⟩⟩
end Go.Proofs.Ytnjlamcpfclgaaa
