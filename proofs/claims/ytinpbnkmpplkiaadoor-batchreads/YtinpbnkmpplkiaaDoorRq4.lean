/- requests: the law's keys -/
import Derived.Test.YtinpbnkmpplkiaaDoorRq3
namespace Go.Proofs.YtinpbnkmpplkiaaDoor
open Go.RowKit
open Sha Tal
theorem KeysAt.apart {w : World} {p : Option Addr} {ds : List (List Int)} (h : KeysAt w p ds) (X : Nat) (s : ByteArray) (hX : w.cell? ⟨X, 0, none⟩ = some (.string s)) (vs : List Value) : KeysAt (w.setCells X 0 vs) p ds := by
  rcases h with h | ⟨K, a, cap, rfl, hK, hc, hl, hd, hr⟩
  · exact .inl h
  · have hKX : K ≠ X := fun e => by subst e; rw [hc] at hX; cases hX
    have hcK : w.rangeAt K 0 [.slice a ds.length cap] := fun j v hv => by
      cases j with
      | zero => simp at hv; subst hv; exact hc
      | succ j => simp at hv
    have hc' := World.rangeAt_setCells_apart hcK X 0 vs (.inl hKX) 0 _ rfl
    refine .inr ⟨K, a, cap, rfl, by rw [size_sets]; exact hK, hc', hl, hd, ?_⟩
    rcases hr with hr | ⟨D, rfl, hD, hr⟩
    · exact .inl hr
    · by_cases hz : ds = []
      · exact .inl hz
      · refine .inr ⟨D, rfl, by rw [size_sets]; exact hD, fun i d hi => ?_⟩
        have hDX : D ≠ X := fun e => by
          subst e
          obtain ⟨d0, dr, rfl⟩ := List.exists_cons_of_ne_nil hz
          have h0 := hr 0 d0 rfl
          obtain ⟨l0, _⟩ := hd d0 (List.mem_cons_self ..)
          have hc0 := get8 h0 (i := 0) (by omega)
          simp only [Nat.zero_mul, Nat.add_zero] at hc0
          rw [hc0] at hX
          cases hX
        exact World.rangeAt_setCells_apart (hr i d hi) X 0 vs (.inl hDX)
def seedR : ByteArray := { data := #[114] }
def rkL : List Value := [.string seedR, .int .i64 72]
theorem iszK : (Tryd.prog.info? 29).map (·.size) = some 2 := by kernel_rfl
set_option maxRecDepth 100000 in
set_option maxHeartbeats 2000000 in
theorem keys6_any (w : World) (hG : Glob w) :
   Calls Tryd.prog 11 #[] w fun e w' => ∃ p, e = .returned (.tuple #[.pointer p, .agg rkL.toArray]) ∧ p ≠ none ∧ KeysAt w' p (keysOf seedR 72) ∧ Below w.heap.size w w' := by
  have cr := fun w0 => refDerive_yes seedR 72 w0 (by omega) (by omega) (by decide)
  have hB1 : Below w.heap.size w (w.alloc (.cells #[.string ⟨#[]⟩, .int .i64 0] 29)) := (Below.refl _ _).alloc (Nat.le_refl _) _
  have hc1 : (w.alloc (.cells #[.string ⟨#[]⟩, .int .i64 0] 29)).cell? ⟨w.heap.size, 0, none⟩ = some (.string ⟨#[]⟩) := range_new w #[.string ⟨#[]⟩, .int .i64 0] 29 0 _ rfl
  have hT1 := there_new w #[.string ⟨#[]⟩, .int .i64 0] 29
  have hz1 : w.heap.size < (w.alloc (.cells #[.string ⟨#[]⟩, .int .i64 0] 29)).heap.size := by simp
  go_enter Tryd.func11, Tryd.ntmps11
  go_upto_region 1 with fail
  go_name_world w1 hw1
  rw [hw1] at hB1 hc1 hT1 hz1
  clear hw1
  have c1 := cr w1
  unfold seedR at c1
  go_wp2_with fail
  refine c1.mono ?_
  rintro e w2 ⟨rfl, hw2⟩
  have hB2 := hB1.trans (hw2.mono hB1.size)
  have hc2 := (hw2.cell (p := ⟨w.heap.size, 0, none⟩) hz1).trans hc1
  have hT2 := there_below hT1 hw2 hz1
  have hz2 := Nat.lt_of_lt_of_le hz1 hw2.size
  clear c1 cr hB1 hc1 hT1 hz1 hw2
  have hQ3 : (w2.alloc (.cells #[.string ⟨#[114]⟩, .int .i64 72] 29)).rangeAt w2.heap.size 0 [.string ⟨#[114]⟩, .int .i64 72] := range_new w2 #[.string ⟨#[114]⟩, .int .i64 72] 29
  have hF3 : Below w2.heap.size w2 (w2.alloc (.cells #[.string ⟨#[114]⟩, .int .i64 72] 29)) := (Below.refl _ _).alloc (Nat.le_refl _) _
  have hz3' : w2.heap.size < (w2.alloc (.cells #[.string ⟨#[114]⟩, .int .i64 72] 29)).heap.size := by simp
  go_upto_region 2 with fail
  go_name_world w3 hw3
  rw [hw3] at hQ3 hF3 hz3'
  have hz3 : w2.heap.size < w3.heap.size := by omega
  have hB3 := hB2.trans (hF3.mono hB2.size)
  have hc3 := (hF3.cell (p := ⟨w.heap.size, 0, none⟩) hz2).trans hc2
  have hT3 := there_below hT2 hF3 hz2
  have hzz3 := Nat.lt_of_lt_of_le hz2 hF3.size
  have hne : w2.heap.size ≠ w.heap.size := by omega
  clear hw3 hB2 hc2 hT2 hz2 hz3' hF3
  obtain ⟨X2, hX2⟩ : ∃ X, w2.heap.size = X := ⟨_, rfl⟩
  rw [hX2] at hQ3 hz3 hne ⊢
  clear hX2
  try simp only [Act.put]
  have hB4 := hB3.drew
  have hQ4 : w3.drew.rangeAt X2 0 [.string ⟨#[114]⟩, .int .i64 72] := (World.rangeAt_drew _ _ _ _).2 hQ3
  have hc4 : w3.drew.cell? ⟨w.heap.size, 0, none⟩ = some (.string ⟨#[]⟩) := hc3
  have hT4 : w3.drew.there w.heap.size 0 2 := (World.there_drew _ _ _ _).2 hT3
  have hz4 : X2 < w3.drew.heap.size := hz3
  have hzz4 : w.heap.size < w3.drew.heap.size := hzz3
  clear hB3 hQ3 hc3 hT3 hz3 hzz3
  obtain ⟨X, hX⟩ : ∃ X, Hid (w.heap.size = X) := ⟨_, hide rfl⟩
  rw [hX.out] at hc4 hT4 hzz4 hne ⊢
  obtain ⟨w5, hw5⟩ : ∃ w5, w3.drew = w5 := ⟨_, rfl⟩
  rw [hw5] at hB4 hQ4 hc4 hT4 hz4 hzz4
  refine hs_begin (S := (fun W : World => W.rangeAt X2 0 [.string ⟨#[114]⟩, .int .i64 72] ∧ Below w.heap.size w W)) 4 rfl (by kernel_rfl) ?_
  rw [hw5]
  clear hw5
  have hS : (fun W : World => W.rangeAt X2 0 [.string ⟨#[114]⟩, .int .i64 72] ∧ Below w.heap.size w W) w5 := ⟨hQ4, hB4⟩
  refine hs_take (i := 1) (d := some 9) (v := .agg #[.string ⟨#[114]⟩, .int .i64 72]) rfl (by kernel_rfl) (by kernel_rfl) (by kernel_rfl) (by rfl) (fun w' hw => exec_load rfl rfl (run_loadVar_mid (P := Tryd.prog) w' X2 0 29 [.string ⟨#[114]⟩, .int .i64 72] _ hw.1 Tryd.underlying29 rfl iszK)) hS rfl ?_
  simp only [Act.put, List.setIfInBounds_toArray, List.set_cons_zero, List.set_cons_succ]
  have cd := derive_yes seedR 72 w5 (hG.below hB4) (by omega) (by omega) (by decide)
  refine hs_call (i := 0) (d := some 8) rfl (by kernel_rfl) (by rfl) (by go_simp; first | done | exact ⟨rfl, rfl⟩ | with_reducible rfl) rfl ?_
  refine (cd).mono ?_
  rintro e' w6 ⟨p, rfl, hp, hk, hw6⟩
  have hS : (fun W : World => W.rangeAt X2 0 [.string ⟨#[114]⟩, .int .i64 72] ∧ Below w.heap.size w W) w6 := ⟨range_below hS.1 hw6 hz4, hS.2.trans (hw6.mono hS.2.size)⟩
  refine ⟨_, rfl, hS, ?_⟩
  simp only [Act.put, List.setIfInBounds_toArray, List.set_cons_zero, List.set_cons_succ]
  have hc6 := (hw6.cell (p := ⟨X, 0, none⟩) hzz4).trans hc4
  have hT6 := there_below hT4 hw6 hzz4
  have hk7 := hk.apart X _ hc6 [.string ⟨#[114]⟩, .int .i64 72]
  have hB7 : Below w.heap.size w (w6.setCells X 0 [.string ⟨#[114]⟩, .int .i64 72]) := below_sets (by rw [hX.out]; omega) _ 0 w6 hS.2
  have hrs := run_loadVar_mid (P := Tryd.prog) (w6.setCells X 0 [.string ⟨#[114]⟩, .int .i64 72]) X 0 29 [.string ⟨#[114]⟩, .int .i64 72] _ (World.rangeAt_setCells_same w6 X 0 [.string ⟨#[114]⟩, .int .i64 72] hT6) Tryd.underlying29 rfl iszK
  have hst := run_storeVar_mid (P := Tryd.prog) w6 X 0 29 #[.string ⟨#[114]⟩, .int .i64 72] hT6 iszK (by simp [Value.oneCell'])
  clear cd hk hw6
  refine hs_take (i := 2) (d := some 0) (v := ?_) rfl (by kernel_rfl) (by kernel_rfl) (by kernel_rfl) (by rfl) ?_ hS rfl ?_
  rotate_left
  · intro w' hw
    go_simp
    try with_reducible rfl
  simp only [Act.put, List.setIfInBounds_toArray, List.set_cons_zero]
  refine hs_store (i := 3) (w' := (w6.setCells X 0 [.string ⟨#[114]⟩, .int .i64 72])) rfl (by kernel_rfl) (by rfl) (exec_store rfl rfl rfl hst) rfl ⟨World.rangeAt_setCells_apart hS.1 X 0 _ (.inl hne), hB7⟩ ?_
  refine hs_done (by kernel_rfl) ?_
  go_wp2_with fail
  exact bodyPost_ret (v := .tuple #[.pointer p, .agg #[.string ⟨#[114]⟩, .int .i64 72]]) (by simp [results, Tryd.results11, asAddr, hrs]) rfl ⟨p, rfl, hp, hk7, hB7⟩
end Go.Proofs.YtinpbnkmpplkiaaDoor
