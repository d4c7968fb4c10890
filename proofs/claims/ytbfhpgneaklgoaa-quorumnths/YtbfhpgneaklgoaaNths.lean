/- The law of the i-th greatest number: the walk. -/
import Derived.Test.YtbfhpgneaklgoaaRefNth
import Derived.Test.YtbfhpgneaklgoaaAppend
namespace Go.Proofs.Ytbfhpgneaklgoaa
open Go.RowKit
theorem RowI.cellsAt {w : World} {x : Addr} {zs : List Int} (h : RowI w (some x) zs) : ∀ j u, (zs.map (Value.int .i64))[j]? = some u → w.cell? (x.add j) = some u := by
  intro j u hu
  obtain ⟨h1, rfl | ⟨b, off, hx, hb, hc⟩⟩ := h
  · simp at hu
  · simp only [Option.some.injEq] at hx
    subst hx
    rw [List.getElem?_map] at hu
    cases hz : zs[j]? with
    | none => simp [hz] at hu
    | some z =>
      simp [hz] at hu
      subst hu
      have hj : j < zs.length := (List.getElem?_eq_some_iff.1 hz).1
      have := hc j hj
      rw [hz] at this
      by_cases h0 : j = 0
      · subst h0; simpa [Addr.add] using this
      · simpa [Addr.add, h0] using this
theorem RowI.none_nil {w : World} {zs : List Int} (h : RowI w none zs) : zs = [] := by
  obtain ⟨h1, h | ⟨b, off, hx, hb, hc⟩⟩ := h
  · exact h
  · cases hx
theorem RowI.src {w : World} {a : Option Addr} {zs : List Int} (h : RowI w a zs) (cap : Nat) : Src Try.prog 1 32 (.slice a zs.length cap) zs.length (zs.map (Value.int .i64)) w := by
  cases a with
  | none => obtain rfl := h.none_nil; exact Src.ofNil w Try.underlying32 cap
  | some x =>
    refine Src.ofSlice w Try.underlying32 x zs.length cap _ (by simp) h.cellsAt (fun u hu => ?_)
    obtain ⟨z, _, rfl⟩ := List.mem_map.1 hu
    rfl
theorem own_rowI {w : World} {base : Nat} {v : Value} {zs : List Int} (h : w.ownsRow base 3 1 v zs.length (zs.map (Value.int .i64))) (hm : zs.length ≤ maxLen) :
    ∃ a cap, v = .slice a zs.length cap ∧ RowI w a zs := by
  rcases h.2 with ⟨rfl, h0⟩ | ⟨g, cap, cur, rfl, hb, hg, hn, hcm, hcs, ht⟩
  · have : zs = [] := List.eq_nil_of_length_eq_zero h0
    subst this
    exact ⟨none, 0, rfl, hm, Or.inl rfl⟩
  · refine ⟨_, cap, rfl, hm, Or.inr ⟨g, 0, rfl, (Array.getElem?_eq_some_iff.1 hg).1, fun j hj => ?_⟩⟩
    rw [Nat.zero_add, List.getElem?_eq_getElem hj]
    exact own_cell h (List.getElem?_eq_getElem hj)
set_option maxHeartbeats 1000000 in
theorem nths_walk (a0 : Option Addr) (cap0 : Nat) (zs : List Int) (i : Int) (w : World) (h0 : RowI w a0 zs) (hl0 : zs.length ≤ 200) :
    Calls Try.prog 5 #[.slice a0 zs.length cap0, .int .i64 i] w fun e w' => e = .returned (.bool true) ∧ Below w.heap.size w w' := by
  have k1 : ¬ (200 : Int) < zs.length := by omega
  obtain ⟨i0, hi, hz0, hz1, hz2⟩ := info_parts info3
  go_enter Try.func5, Try.ntmps5
  go_wp2_with (at_builtin; refine wpList_append_own_src _ rfl _ _ 32 32 rfl w.heap.size 3 i0 (.int .i64 0) 1 8 Try.underlying32 hi hz0 hz1 hz2 rfl _ 0 [] rfl (World.ownsRow_made w #[] 0 (Nat.le_refl _) (by simp) (by simp)) (.slice a0 zs.length cap0) zs.length (zs.map (Value.int .i64)) rfl ((h0.below ((Below.refl _ _).alloc (Nat.le_refl _) _)).src cap0) ?c1 ?c2 ?c3 ?_)
  case c1 => unfold maxLen; omega
  case c2 => omega
  intro v' w1 hown hgrow
  obtain ⟨a', cap', rfl, hr1⟩ := own_rowI (zs := zs) (by simpa using hown) h0.1
  have hb1 : Below w.heap.size w w1 := ((Below.refl _ _).alloc (Nat.le_refl _) _).grown hgrow (by simp) (fun k hk => by simp [Value.ownBlock] at hk; omega)
  clear hown hgrow
  have g0 := h0.below hb1
  go_wp2_with fail
  refine (nth_any a' cap' zs i w1 hr1 (by omega)).mono ?_
  rintro e w2 ⟨rfl, hw2⟩
  have hb2 := hb1.trans (hw2.mono hb1.size)
  have g2 := h0.below hb2
  have r2 := hr1.below hw2
  go_wp2_with fail
  refine (refNth_any a0 cap0 zs i w2 g2 (by omega)).mono ?_
  rintro e w3 ⟨rfl, hw3⟩
  have hb3 := hb2.trans (hw3.mono hb2.size)
  have g3 := h0.below hb3
  have r3 := r2.below hw3
  generalize nth zs i = x at *
  go_wp2_with fail
  refine (ints_same a' a0 cap' cap0 zs w3 r3 g3 (by omega)).mono ?_
  rintro e w4 ⟨rfl, hw4⟩
  have hb4 := hb3.trans (hw4.mono hb3.size)
  go_wp2_with fail
  refine (lives_any _).mono ?_
  rintro e w5 ⟨rfl, hw5⟩
  go_wp2
  go_ret
  exact ⟨rfl, hb4.trans (hw5.mono hb4.size)⟩
end Go.Proofs.Ytbfhpgneaklgoaa
