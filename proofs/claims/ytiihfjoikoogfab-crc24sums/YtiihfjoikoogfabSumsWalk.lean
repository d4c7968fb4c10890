/- The sums' law: the walk where it goes on to the sums. -/
import Derived.Test.YtiihfjoikoogfabOwn
namespace Go.Proofs.Ytiihfjoikoogfab
open Go.RowKit
open Crc
set_option maxHeartbeats 800000 in
theorem sums_walk (a0 : Option Addr) (cap0 : Nat) (zs : List Int) (sum : Int) (w : World) (h0 : RowAt w a0 zs)
   (hl0 : zs.length ≤ 20000) :
    Calls Try.prog 3 #[.slice a0 zs.length cap0, .int .i64 sum] w fun e w' => e = .returned (.bool true) ∧ Below w.heap.size w w' := by
  have k1 : ¬ (20000 : Int) < zs.length := by omega
  obtain ⟨i0, hi, hz0, hz1, hz2⟩ := info_parts info5
  go_enter Try.func3, Try.ntmps3
  go_wp2_with (at_builtin; refine wpList_append_own_src _ rfl _ _ 22 22 rfl w.heap.size 5 i0 (.int .u8 0) 1 1 Try.underlying22 hi hz0 hz1 hz2 rfl _ 0 [] rfl (World.ownsRow_made w #[] 0 (Nat.le_refl _) (by simp) (by simp)) (.slice a0 zs.length cap0) zs.length (zs.map (Value.int .u8)) rfl ((h0.below ((Below.refl _ _).alloc (Nat.le_refl _) _)).src cap0) ?c1 ?c2 ?c3 ?_)
  case c1 => unfold maxLen; omega
  case c2 => omega
  intro v' w1 hown hgrow
  obtain ⟨a', cap', rfl, hcap1, hcap2, hr1⟩ := own_rowAt hown h0.2.1 h0.1
  have hb1 : Below w.heap.size w w1 := ((Below.refl _ _).alloc (Nat.le_refl _) _).grown hgrow (by simp) (fun k hk => by simp [Value.ownBlock] at hk; omega)
  clear hown hgrow
  have g0 := h0.below hb1
  go_wp2_with fail
  refine (sum_any a' cap' zs w1 hr1).mono ?_
  rintro e w2 ⟨rfl, hw2⟩
  have hb2 := hb1.trans (hw2.mono hb1.size)
  have g2 := h0.below hb2
  have r2 := hr1.below hw2
  go_wp2_with fail
  refine (refSum_any a0 cap0 zs w2 g2).mono ?_
  rintro e w3 ⟨rfl, rfl⟩
  go_wp2_with fail
  refine (next_any sum a' cap' zs w3 r2).mono ?_
  rintro e w4 ⟨rfl, hw4⟩
  have hb4 := hb2.trans (hw4.mono hb2.size)
  have g4 := h0.below hb4
  have r4 := r2.below hw4
  go_wp2_with fail
  refine (refNext_any sum a0 cap0 zs w4 g4).mono ?_
  rintro e w5 ⟨rfl, rfl⟩
  go_wp2_with fail
  refine (fits_any a0 cap0 zs sum w5 g4).mono ?_
  rintro e w6 ⟨rfl, hw6⟩
  have hb6 := hb4.trans (hw6.mono hb4.size)
  have g6 := h0.below hb6
  have r6 := r4.below hw6
  go_wp2_with fail
  refine (refSum_any a0 cap0 zs w6 g6).mono ?_
  rintro e w7 ⟨rfl, rfl⟩
  go_wp2_with fail
  refine (refSum_any a0 cap0 zs w7 g6).mono ?_
  rintro e w8 ⟨rfl, rfl⟩
  go_wp2_with fail
  refine (fits_any a0 cap0 zs _ w8 g6).mono ?_
  rintro e w9 ⟨rfl, hw9⟩
  have hb9 := hb6.trans (hw9.mono hb6.size)
  have g9 := h0.below hb9
  have r9 := r6.below hw9
  have s1 := r9.str cap'
  have s2 := g9.str cap0
  go_wp2_with fail
  refine (lives_any _).mono ?_
  rintro e w10 ⟨rfl, hw10⟩
  go_wp2
  go_ret
  exact ⟨rfl, hb9.trans (hw10.mono hb9.size)⟩
end Go.Proofs.Ytiihfjoikoogfab
