/- The law DigestCuts, walked. -/
import Derived.Test.YtkadfmbpajbkiaaDoorOwn
import Derived.Test.YtkadfmbpajbkiaaDoorLives
import Derived.Test.YtkadfmbpajbkiaaDoorEql
import Derived.WalkLawsBesides
namespace Go.Proofs.YtkadfmbpajbkiaaDoor
open Go.RowKit
open Sha
theorem umod (z : Int) (r : Nat) (hr : r ≤ 20000) : ∃ n : Nat, n ≤ r ∧ wrap64 ((IntKind.u64.wrap z).tmod ((r : Int) + 1)) = (n : Int) := by
  rw [IntKind.wrap_u64]
  have h0 : 0 ≤ z % 18446744073709551616 := Int.emod_nonneg _ (by decide)
  generalize z % 18446744073709551616 = q at h0
  rw [Int.tmod_eq_emod_of_nonneg h0]
  have h1 := Int.emod_nonneg q (b := (r : Int) + 1) (by omega)
  have h2 := Int.emod_lt_of_pos q (b := (r : Int) + 1) (by omega)
  refine ⟨(q % ((r : Int) + 1)).toNat, by omega, ?_⟩
  generalize q % ((r : Int) + 1) = m at h1 h2
  simp only [wrap64]
  omega
set_option maxRecDepth 20000 in
set_option maxHeartbeats 1000000 in
theorem cuts_walk (a0 : Option Addr) (cap0 : Nat) (zs : List Int) (a1 : Option Addr) (cap1 : Nat) (ys : List Int) (w : World) (hG : Glob w) (h0 : RowAt w a0 zs) (hc0 : zs.length ≤ cap0) (hm0 : cap0 ≤ maxLen) (h1 : RowI w a1 ys)
   (hl0 : zs.length ≤ 5000) (hl1 : ys.length ≤ 500) :
    Calls Tryd.prog 4 #[.slice a0 zs.length cap0, .slice a1 ys.length cap1] w fun e w' => e = .returned (.bool true) ∧ Below w.heap.size w w' := by
  unfold maxLen at hm0
  have k1 : ¬ (5000 : Int) < zs.length := by omega
  have k2 : ¬ (500 : Int) < ys.length := by omega
  obtain ⟨i0, hi, hz0, hz1, hz2⟩ := info_parts infoP
  go_enter Tryd.func4, Tryd.ntmps4
  go_wp2_with fail
  go_loopw [5, 6, 22] (fun v r i wr => ∃ (k : Nat) (ps : List Part) (rest : List Int) (a' : Option Addr) (cap' : Nat), k ≤ ys.length ∧ i = .int .i64 (k : Int) ∧ Hid (ps.length = k) ∧ Hid (zs = cat ps ++ rest) ∧ r = .slice a' rest.length cap' ∧ rest.length ≤ cap' ∧ cap' ≤ 9223372036854775807 ∧ rest.length ≤ 5000 ∧ RowAt w a' rest ∧ (∀ p ∈ ps, p.at w) ∧ wr.ownsRow w.heap.size 27 1 v ps.length (ps.map Part.val) ∧ Below w.heap.size w wr) (fun _ _ i _ => ys.length - (intOf i).toNat)
  case atStart => exact ⟨0, [], zs, a0, cap0, by omega, rfl, rfl, rfl, rfl, hc0, by omega, hl0, h0, by simp, World.ownsRow_nil w _ _ _, Below.refl _ _⟩
  case round =>
    obtain ⟨k, ps, rest, a', cap', hk, rfl, hpk, hzs, rfl, hrc, hrm, hr5, hra, hps, hown, hB⟩ := hrel
    by_cases hlt : k < ys.length
    · obtain ⟨b, off, rfl, hbb, hcc⟩ : ∃ b off, a1 = some ⟨b, off, none⟩ ∧ b < w.heap.size ∧ w.rangeAt b off (ys.map (Value.int .i64)) := by
        rcases h1.2.2 with rfl | h
        · simp at hlt
        · exact h
      obtain ⟨z, hcx, hz⟩ : ∃ z, wr.cell? ⟨b, off + k, none⟩ = some (.int .i64 z) ∧ (Lit.int .i64 z).wf = true := by
        refine ⟨ys[k], (hB.cell (p := ⟨b, off + k, none⟩) hbb).trans (hcc k _ (by rw [List.getElem?_map, List.getElem?_eq_getElem hlt]; rfl)), h1.2.1 _ (List.getElem_mem hlt)⟩
      obtain ⟨n, hn, en⟩ := umod z rest.length (by omega)
      have hlk : (k : Int) < ys.length := by omega
      obtain ⟨q, hq⟩ : ∃ q, Hid (rest.take n = q) := ⟨_, rfl⟩
      have hql : q.length = n := by rw [← hq.out]; exact List.length_take_of_le hn
      have hat : (⟨a', cap', q⟩ : Part).at w := ⟨by rw [← hq.out]; exact hra.take n, by show q.length ≤ cap'; omega, by show cap' ≤ maxLen; unfold maxLen; omega⟩
      have hdr := hra.drop n cap' hn hrc
      obtain rfl : n = q.length := hql.symm
      have hB1 : Below w.heap.size w (wr.alloc (.cells #[.slice a' q.length cap'] 27)) := hB.alloc hB.size _
      have hown1 := owns_below hown ((Below.refl wr.heap.size wr).alloc (Nat.le_refl _) (.cells #[.slice a' q.length cap'] 27))
      have hsrc : Src Tryd.prog 1 22 (.slice (some ⟨wr.heap.size, 0, none⟩) 1 1) 1 [.slice a' q.length cap'] (wr.alloc (.cells #[.slice a' q.length cap'] 27)) := one_src wr ⟨a', cap', q⟩
      go_wp2_with (at_builtin; refine wpList_append_own_src _ rfl _ _ 22 22 rfl w.heap.size 27 i0 (.slice none 0 0) 1 24 Tryd.underlying22 hi hz0 hz1 hz2 rfl _ ps.length _ rfl hown1 _ 1 _ rfl hsrc ?c1 ?c2 ?c3 ?_)
      case c1 => have := hpk.out; unfold maxLen; omega
      case c2 => have := hpk.out; omega
      case c3 => have := hB.size; omega
      intro v2 w2 hown2 hgr2
      have hB2 := below_grown hB1 hB1.size hown1 hgr2
      clear hown1 hB1 hsrc hgr2
      go_wp2_with fail
      go_roundw
      case rel =>
        refine ⟨k + 1, ps ++ [⟨a', cap', q⟩], rest.drop q.length, cutA a' cap' q.length, cap' - q.length, by omega, by go_num, by show (ps ++ [(⟨a', cap', q⟩ : Part)]).length = k + 1; simp [hpk.out], ?_, by simp [cutA], by simp; omega, by omega, by simp; omega, hdr, ?_, ?_, hB2⟩
        · show zs = _
          rw [cat_append, List.append_assoc]
          have : cat [(⟨a', cap', q⟩ : Part)] = q := by simp [cat]
          rw [this, hzs.out]
          congr 1
          have e := hq.out
          calc rest = rest.take q.length ++ rest.drop q.length := (List.take_append_drop _ _).symm
            _ = q ++ rest.drop q.length := by rw [e]
        · intro p hp
          rcases List.mem_append.1 hp with hp | hp
          · exact hps p hp
          · obtain rfl := List.mem_singleton.1 hp
            exact hat
        · simpa [Part.val] using hown2
      case measure => simp [intOf]; omega
    · have hlk : ¬ (k : Int) < ys.length := by omega
      have hat : (⟨a', cap', rest⟩ : Part).at w := ⟨hra, hrc, by show cap' ≤ maxLen; unfold maxLen; omega⟩
      have hB1 : Below w.heap.size w (wr.alloc (.cells #[.slice a' rest.length cap'] 27)) := hB.alloc hB.size _
      have hown1 := owns_below hown ((Below.refl wr.heap.size wr).alloc (Nat.le_refl _) (.cells #[.slice a' rest.length cap'] 27))
      have hsrc : Src Tryd.prog 1 22 (.slice (some ⟨wr.heap.size, 0, none⟩) 1 1) 1 [.slice a' rest.length cap'] (wr.alloc (.cells #[.slice a' rest.length cap'] 27)) := one_src wr ⟨a', cap', rest⟩
      go_wp2_with (at_builtin; refine wpList_append_own_src _ rfl _ _ 22 22 rfl w.heap.size 27 i0 (.slice none 0 0) 1 24 Tryd.underlying22 hi hz0 hz1 hz2 rfl _ ps.length _ rfl hown1 _ 1 _ rfl hsrc ?c1 ?c2 ?c3 ?_)
      case c1 => have := hpk.out; unfold maxLen; omega
      case c2 => have := hpk.out; omega
      case c3 => have := hB.size; omega
      intro v2 w2 hown2 hgr2
      have hB2 := below_grown hB1 hB1.size hown1 hgr2
      clear hown1 hB1 hsrc hgr2
      have hown3 : w2.ownsRow w.heap.size 27 1 v2 (ps ++ [(⟨a', cap', rest⟩ : Part)]).length ((ps ++ [(⟨a', cap', rest⟩ : Part)]).map Part.val) := by simpa [Part.val] using hown2
      obtain ⟨av, cv, rfl, hPA⟩ := own_parts hown3 (fun p hp => by
        rcases List.mem_append.1 hp with hp | hp
        · exact (hps p hp).below hB2
        · obtain rfl := List.mem_singleton.1 hp
          exact hat.below hB2) (by have := hpk.out; simp; unfold maxLen; omega)
      have hcat : cat (ps ++ [(⟨a', cap', rest⟩ : Part)]) = zs := by
        rw [cat_append, hzs.out]; simp [cat]
      have c1 := sum_any av cv _ w2 (hG.below hB2) hPA (by rw [hcat]; omega)
      rw [hcat] at c1
      have hlen : (ps ++ [(⟨a', cap', rest⟩ : Part)]).length = ps.length + 1 := by simp
      rw [hlen] at c1 ⊢
      obtain ⟨d, hd⟩ : ∃ d, Hid (sha zs = d) := ⟨_, rfl⟩
      have hdl := sha_length zs
      rw [hd.out] at c1 hdl
      clear hown2 hown3 hPA hcat hlen hown
      go_wp2_with fail
      refine c1.mono ?_
      rintro e w3 ⟨rfl, hw3⟩
      have hB3 := hB2.trans (hw3.mono hB2.size)
      clear c1 hw3
      have hat0 : (⟨a0, cap0, zs⟩ : Part).at w3 := Part.at.below (w := w) ⟨h0, hc0, by show cap0 ≤ maxLen; unfold maxLen; omega⟩ hB3
      have hP0 := one_part w3 #[.slice a0 zs.length cap0] ⟨a0, cap0, zs⟩ hat0 rfl
      have hB4 : Below w.heap.size w (w3.alloc (.cells #[.slice a0 zs.length cap0] 27)) := hB3.alloc hB3.size _
      have hcz : cat [(⟨a0, cap0, zs⟩ : Part)] = zs := by simp [cat]
      have c2 := sum_any _ 1 _ _ (hG.below hB4) hP0 (by rw [hcz]; omega)
      rw [hcz, hd.out] at c2
      simp only [List.length_cons, List.length_nil, Nat.zero_add] at c2
      clear hP0 hat0 hcz
      have he := eql_digest d hdl
      go_wp2_with fail
      refine c2.mono ?_
      rintro e w5 ⟨rfl, hw5⟩
      have hs4 := hB4.size
      have hB5 := hB4.trans (hw5.mono hs4)
      clear c2 hw5
      go_wp2_with fail
      refine (lives_any _ (hG.below hB5)).mono ?_
      rintro e w6 ⟨rfl, hw6⟩
      go_wp2
      go_ret
      exact ⟨rfl, hB5.trans (hw6.mono hB5.size)⟩
theorem cuts_any (a0 : Option Addr) (cap0 : Nat) (zs : List Int) (a1 : Option Addr) (cap1 : Nat) (ys : List Int) (w : World) (hG : Glob w) (h0 : RowAt w a0 zs) (hc0 : zs.length ≤ cap0) (hm0 : cap0 ≤ maxLen) (h1 : RowI w a1 ys) :
    Calls Tryd.prog 4 #[.slice a0 zs.length cap0, .slice a1 ys.length cap1] w fun e w' => e = .returned (.bool true) ∧ Below w.heap.size w w' := by
  by_cases g0 : 5000 < zs.length
  · have g0' : (5000 : Int) < zs.length := by omega
    go_enter Tryd.func4, Tryd.ntmps4
    go_wp2_with fail
    refine (lives_any _ hG).mono ?_
    rintro e w4 ⟨rfl, hw4⟩
    go_wp2
    go_ret
    exact ⟨rfl, hw4⟩
  · by_cases g1 : 500 < ys.length
    · have g0' : ¬ (5000 : Int) < zs.length := by omega
      have g1' : (500 : Int) < ys.length := by omega
      go_enter Tryd.func4, Tryd.ntmps4
      go_wp2_with fail
      refine (lives_any _ hG).mono ?_
      rintro e w4 ⟨rfl, hw4⟩
      go_wp2
      go_ret
      exact ⟨rfl, hw4⟩
    · exact cuts_walk a0 cap0 zs a1 cap1 ys w hG h0 hc0 hm0 h1 (by omega) (by omega)
end Go.Proofs.YtkadfmbpajbkiaaDoor
