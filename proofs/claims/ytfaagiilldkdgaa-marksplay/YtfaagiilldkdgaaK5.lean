/- each -/
import Derived.Test.YtfaagiilldkdgaaK4
import Derived.RangeFuncBox
namespace Go.Proofs.Ytfaagiilldkdgaa
open Go.RowKit
set_option linter.unusedVariables false
set_option maxHeartbeats 400000 in
theorem each_no (p f : Value) (w : World) (h : NoMk w p) : Calls Try.prog 20 #[p, f] w fun e w' => e = .returned (.tuple #[]) ∧ w' = w := by
  have cM := isMade_no p w h
  go_enter Try.func20, Try.ntmps20
  go_wp2_with fail
  refine cM.mono ?_
  rintro _ wx ⟨rfl, hx⟩
  obtain rfl := hx.symm
  clear hx cM
  go_wp2_with fail
  (try simp only [Exit.inBlock, Exit.then])
  refine bodyPost_ret (results_none rfl _ _ _) rfl ?_
  exact ⟨rfl, rfl⟩
set_option maxRecDepth 100000 in
set_option maxHeartbeats 4000000 in
theorem each_any (B b n : Nat) (N : Int) (m : Int → Option Mk) (g : Nat) (eg : ∀ args w, (callFunc g args).run Try.prog w = .ok (.enter g args) w) (caps : Array Value) (J : Nat → World → Prop) (hJ : ∀ k W, J k W → MkAt W B b n N m)
    (hB : ∀ k W W', J k W → Below W.heap.size W W' → J k W')
    (hC : ∀ (k : Nat) x W, (k : Int) < N → J k W → m k = some x → Calls Try.prog g (#[.int .i64 (k : Int), .agg x.cells.toArray] ++ caps) W fun e W' => e = .returned (.tuple #[]) ∧ J (k + 1) W')
    (hno : ∀ (k : Nat) W, (k : Int) < N → J k W → m k = none → J (k + 1) W) (w : World) (h0 : J 0 w) :
    Calls Try.prog 20 #[.pointer (some ⟨B, 0, none⟩), .func (.func g) #[] caps] w fun e w' => e = .returned (.tuple #[]) ∧ J N.toNat w' := by
  have h := hJ 0 w h0
  have cM := isMade_yes B b n N m w h
  have c0 := h.c0
  have hN := h.good
  obtain ⟨hN1, hN2⟩ := hN
  clear h
  go_enter Try.func20, Try.ntmps20
  go_wp2_with fail
  refine cM.mono ?_
  rintro _ wx ⟨rfl, hx⟩
  obtain rfl := hx.symm
  clear hx cM
  go_wp2_with fail
  go_loopw [14] (fun kv wr => ∃ k : Nat, (k : Int) ≤ N ∧ kv = .int .i64 (k : Int) ∧ J k wr) (fun kv _ => (N - intOf kv).toNat)
  case atStart => exact ⟨0, by omega, rfl, h0⟩
  case round =>
    clear c0 h0
    obtain ⟨k, hk, rfl, hJk⟩ := hrel
    by_cases hlt : (k : Int) < N
    · have hM := hJ k wr hJk
      have hk64 : I64 (k : Int) := by unfold I64; omega
      have hlk : ∀ w', MkAt w' B b n N m → (Instr.lookup 50 (.map (some b)) (.int .i64 (k : Int)) true).run Try.prog w' = .ok (.tuple #[.agg ((m k).getD mk0).cells.toArray, .bool (m k).isSome]) w' := fun w' h' => h'.mp.look k hk64
      have hy := hM.val k
      cases hmk : m k with
      | none =>
        rw [hmk] at hlk hy
        simp only [Option.getD_none, Option.isSome_none] at hlk hy
        obtain ⟨y, hyy⟩ : ∃ y, Hid (mk0 = y) := ⟨_, hide rfl⟩
        have hy49 : y.cells.length = 49 := by rw [← hyy.out]; exact hy.len
        have hlk : ∀ w', MkAt w' B b n N m → (Instr.lookup 50 (.map (some b)) (.int .i64 (k : Int)) true).run Try.prog w' = .ok (.tuple #[.agg y.cells.toArray, .bool false]) w' := by rw [← hyy.out]; exact hlk
        have HN := hide (hno k)
        have HM := hide hmk
        clear hyy hy hmk hno
        go_upto_region 4 with fail
        try simp only [Act.put]
        refine pl_begin ?_
        refine pl_take (d := some 18) (v := ?_) (by rfl) ?_ rfl ?_
        rotate_left
        · go_simp
          try with_reducible rfl
        simp only [Act.put, List.setIfInBounds_toArray, List.set_cons_zero, List.set_cons_succ]
        refine pl_take (d := some 19) (v := ?_) (by rfl) ?_ rfl ?_
        rotate_left
        · go_simp
          try with_reducible rfl
        simp only [Act.put, List.setIfInBounds_toArray, List.set_cons_zero, List.set_cons_succ]
        refine pl_take (d := some 20) (v := ?_) (by rfl) ?_ rfl ?_
        rotate_left
        · go_simp
          try with_reducible rfl
        simp only [Act.put, List.setIfInBounds_toArray, List.set_cons_zero, List.set_cons_succ]
        refine pl_take (d := some 21) (v := .map (some b)) (by rfl) (pl_one rfl rfl hM.c1 Try.underlying50 rfl) rfl ?_
        simp only [Act.put, List.setIfInBounds_toArray, List.set_cons_zero, List.set_cons_succ]
        refine pl_take (d := some 22) (v := ?_) (by rfl) ?_ rfl ?_
        rotate_left
        · go_simp
          try with_reducible rfl
        simp only [Act.put, List.setIfInBounds_toArray, List.set_cons_zero, List.set_cons_succ]
        refine pl_take (d := some 23) (v := .tuple #[.agg y.cells.toArray, .bool false]) (by rfl) (ex_look rfl rfl rfl (hlk wr hM)) rfl ?_
        simp only [Act.put, List.setIfInBounds_toArray, List.set_cons_zero, List.set_cons_succ]
        refine pl_take (d := some 17) (v := ?_) (by rfl) ?_ rfl ?_
        rotate_left
        · go_simp
          try with_reducible rfl
        simp only [Act.put, List.setIfInBounds_toArray, List.set_cons_zero, List.set_cons_succ]
        refine pl_take (d := some 24) (v := ?_) (by rfl) ?_ rfl ?_
        rotate_left
        · go_simp
          try with_reducible rfl
        simp only [Act.put, List.setIfInBounds_toArray, List.set_cons_zero, List.set_cons_succ]
        refine pl_take (d := some 25) (v := ?_) (by rfl) ?_ rfl ?_
        rotate_left
        · go_simp
          try with_reducible rfl
        simp only [Act.put, List.setIfInBounds_toArray, List.set_cons_zero, List.set_cons_succ]
        refine pl_run (d := some 5) (v := .pointer (some ⟨wr.heap.size, 0, none⟩)) (w' := wr.alloc (.cells mk0.cells.toArray 61)) (by rfl) (ex_alloc rfl (zeroSig _)) rfl ?_
        simp only [Act.put, List.setIfInBounds_toArray, List.set_cons_zero, List.set_cons_succ]
        refine pl_store (w' := (wr.alloc (.cells mk0.cells.toArray 61)).setCells wr.heap.size 0 y.cells) (by rfl) (ex_put (cs := y.cells.toArray) rfl rfl rfl (there_newN _ _ _ (by simp [hy49, mk0_ok.len])) (by simpa [hy49] using iszS) (all_one y.one)) rfl ?_
        refine pl_take (d := some 6) (v := ?_) (by rfl) ?_ rfl ?_
        rotate_left
        · go_simp
          try with_reducible rfl
        simp only [Act.put, List.setIfInBounds_toArray, List.set_cons_zero, List.set_cons_succ]
        refine pl_nil ?_
        obtain ⟨hF1, hF2, hF3, hF4⟩ := fresh_store wr mk0.cells.toArray 61 y.cells (by simp [hy49, mk0_ok.len])
        generalize (wr.alloc (.cells mk0.cells.toArray 61)).setCells wr.heap.size 0 y.cells = w7 at *
        have hJ7 := hB k wr w7 hJk hF2
        have hJ8 := HN.out w7 hlt hJ7 HM.out
        clear hF1 hF2 hF3 hF4 hJ7 hJk hM hlk
        go_wp2_with fail
        go_roundw
        case rel => exact ⟨k + 1, by omega, by go_num, hJ8⟩
        case measure => simp [intOf]; omega
      | some y =>
        rw [hmk] at hlk hy
        simp only [Option.getD_some, Option.isSome_some] at hlk hy
        have hy49 := hy.len
        have HC := hide (hC k y)
        have HM := hide hmk
        clear hmk hno
        go_upto_region 4 with fail
        try simp only [Act.put]
        refine pl_begin ?_
        refine pl_take (d := some 18) (v := ?_) (by rfl) ?_ rfl ?_
        rotate_left
        · go_simp
          try with_reducible rfl
        simp only [Act.put, List.setIfInBounds_toArray, List.set_cons_zero, List.set_cons_succ]
        refine pl_take (d := some 19) (v := ?_) (by rfl) ?_ rfl ?_
        rotate_left
        · go_simp
          try with_reducible rfl
        simp only [Act.put, List.setIfInBounds_toArray, List.set_cons_zero, List.set_cons_succ]
        refine pl_take (d := some 20) (v := ?_) (by rfl) ?_ rfl ?_
        rotate_left
        · go_simp
          try with_reducible rfl
        simp only [Act.put, List.setIfInBounds_toArray, List.set_cons_zero, List.set_cons_succ]
        refine pl_take (d := some 21) (v := .map (some b)) (by rfl) (pl_one rfl rfl hM.c1 Try.underlying50 rfl) rfl ?_
        simp only [Act.put, List.setIfInBounds_toArray, List.set_cons_zero, List.set_cons_succ]
        refine pl_take (d := some 22) (v := ?_) (by rfl) ?_ rfl ?_
        rotate_left
        · go_simp
          try with_reducible rfl
        simp only [Act.put, List.setIfInBounds_toArray, List.set_cons_zero, List.set_cons_succ]
        refine pl_take (d := some 23) (v := .tuple #[.agg y.cells.toArray, .bool true]) (by rfl) (ex_look rfl rfl rfl (hlk wr hM)) rfl ?_
        simp only [Act.put, List.setIfInBounds_toArray, List.set_cons_zero, List.set_cons_succ]
        refine pl_take (d := some 17) (v := ?_) (by rfl) ?_ rfl ?_
        rotate_left
        · go_simp
          try with_reducible rfl
        simp only [Act.put, List.setIfInBounds_toArray, List.set_cons_zero, List.set_cons_succ]
        refine pl_take (d := some 24) (v := ?_) (by rfl) ?_ rfl ?_
        rotate_left
        · go_simp
          try with_reducible rfl
        simp only [Act.put, List.setIfInBounds_toArray, List.set_cons_zero, List.set_cons_succ]
        refine pl_take (d := some 25) (v := ?_) (by rfl) ?_ rfl ?_
        rotate_left
        · go_simp
          try with_reducible rfl
        simp only [Act.put, List.setIfInBounds_toArray, List.set_cons_zero, List.set_cons_succ]
        refine pl_run (d := some 5) (v := .pointer (some ⟨wr.heap.size, 0, none⟩)) (w' := wr.alloc (.cells mk0.cells.toArray 61)) (by rfl) (ex_alloc rfl (zeroSig _)) rfl ?_
        simp only [Act.put, List.setIfInBounds_toArray, List.set_cons_zero, List.set_cons_succ]
        refine pl_store (w' := (wr.alloc (.cells mk0.cells.toArray 61)).setCells wr.heap.size 0 y.cells) (by rfl) (ex_put (cs := y.cells.toArray) rfl rfl rfl (there_newN _ _ _ (by simp [hy49, mk0_ok.len])) (by simpa [hy49] using iszS) (all_one y.one)) rfl ?_
        refine pl_take (d := some 6) (v := ?_) (by rfl) ?_ rfl ?_
        rotate_left
        · go_simp
          try with_reducible rfl
        simp only [Act.put, List.setIfInBounds_toArray, List.set_cons_zero, List.set_cons_succ]
        refine pl_nil ?_
        obtain ⟨hF1, hF2, hF3, hF4⟩ := fresh_store wr mk0.cells.toArray 61 y.cells (by simp [hy49, mk0_ok.len])
        generalize (wr.alloc (.cells mk0.cells.toArray 61)).setCells wr.heap.size 0 y.cells = w7 at *
        have hJ7 := hB k wr w7 hJk hF2
        have cC := HC.out w7 hlt hJ7 HM.out
        have hiS : (Try.prog.info? 61).map (·.size) = some y.cells.length := by rw [hy49]; exact iszS
        clear hF2 hF3 hF4 hJk hM hlk HC hC
        go_upto_region 6 with fail
        try simp only [Act.put]
        refine pl_begin ?_
        refine pl_take (d := some 27) (v := ?_) (by rfl) ?_ rfl ?_
        rotate_left
        · go_simp
          try with_reducible rfl
        simp only [Act.put, List.setIfInBounds_toArray, List.set_cons_zero, List.set_cons_succ]
        refine pl_take (d := some 28) (v := ?_) (by rfl) ?_ rfl ?_
        rotate_left
        · go_simp
          try with_reducible rfl
        simp only [Act.put, List.setIfInBounds_toArray, List.set_cons_zero, List.set_cons_succ]
        refine pl_take (d := some 29) (v := .agg y.cells.toArray) (by rfl) (ex_mid rfl rfl hF1 Try.underlying61 rfl hiS) rfl ?_
        simp only [Act.put, List.setIfInBounds_toArray, List.set_cons_zero, List.set_cons_succ]
        refine pl_call (d := some 30) (by rfl) (by go_simp; first | done | exact ⟨rfl, rfl⟩ | with_reducible rfl) rfl ?_
        refine (cC).mono ?_
        rintro _ w8 ⟨rfl, hJ8⟩
        refine ⟨_, rfl, ?_⟩
        simp only [Act.put, List.setIfInBounds_toArray, List.set_cons_zero, List.set_cons_succ]
        refine pl_nil ?_
        go_wp2_with fail
        go_roundw
        case rel => exact ⟨k + 1, by omega, by go_num, hJ8⟩
        case measure => simp [intOf]; omega
    · obtain rfl : (k : Int) = N := by omega
      go_wp2_with fail
      go_end0
      exact ⟨rfl, by simpa using hJk⟩
end Go.Proofs.Ytfaagiilldkdgaa
