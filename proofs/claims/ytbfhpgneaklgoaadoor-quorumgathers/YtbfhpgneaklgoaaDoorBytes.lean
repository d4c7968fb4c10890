/- the document's Bytes: a digest's bytes, by themselves -/
import Derived.Test.YtbfhpgneaklgoaaDoorPadded
import Derived.Test.YtbfhpgneaklgoaaDoorBase
namespace Go.Proofs.YtbfhpgneaklgoaaDoor
open Go.RowKit
open Sha
theorem owns_mono {w : World} {B B' : Nat} {e : TypeId} {v : Value} {n : Nat} {xs : List Value} (h : w.ownsRow B e 1 v n xs) (hB : B' ≤ B) : w.ownsRow B' e 1 v n xs := by
  refine ⟨h.1, ?_⟩
  rcases h.2 with h | ⟨g, cap, cur, hv, hg, r⟩
  · exact .inl h
  · exact .inr ⟨g, cap, cur, hv, Nat.le_trans hB hg, r⟩
set_option maxRecDepth 20000 in
set_option maxHeartbeats 1000000 in
theorem bytes_any (d : List Int) (w : World) (hd : d.length = 32) :
   Calls Tryd.prog 59 #[.agg (v8 d).toArray] w fun e w' => ∃ v, e = .returned v ∧ w'.ownsRow w.heap.size 5 1 v d.length (v8 d) ∧ Below w.heap.size w w' := by
  obtain ⟨i0, hi, hz0, hz1, hz2⟩ := info_parts info8
  have B0 : Below w.heap.size w (w.alloc (.cells (v8 d).toArray 54)) := (Below.refl _ _).alloc (Nat.le_refl _) _
  have hR := box_range w d 54
  obtain ⟨cs, hcs⟩ : ∃ cs, Hid (v8 d = cs) := ⟨_, rfl⟩
  have HR : Hid ((w.alloc (.cells cs.toArray 54)).rangeAt w.heap.size 0 (v8 d)) := by rw [← hcs.out]; exact hR
  clear hR
  rw [hcs.out] at B0 ⊢
  have HD : Hid (d.length = 32) := hd
  clear hd
  go_enter Tryd.func59, Tryd.ntmps59
  go_upto_region 1 with fail
  go_name_world w1 hw1
  have e := hw1
  have hR1 : w1.rangeAt w.heap.size 0 (v8 d) := e ▸ HR.out
  have hB1 : Below w.heap.size w w1 := e ▸ B0
  have hz : w.heap.size < w1.heap.size := by rw [← e]; simp
  clear e hw1 B0 HR
  go_wp2_with fail
  go_loopw [3, 4] (fun v i wr => ∃ k : Nat, k ≤ 32 ∧ i = .int .i64 (k : Int) ∧ wr.ownsRow (w.heap.size + 1) 5 1 v k (v8 (d.take k)) ∧ Below (w.heap.size + 1) w1 wr) (fun _ i _ => 32 - (intOf i).toNat)
  case atStart => exact ⟨0, by omega, rfl, by simpa [v8] using World.ownsRow_nil w1 (w.heap.size + 1) 5 1, Below.refl _ _⟩
  case round =>
    obtain ⟨k, hk, rfl, hown, hB⟩ := hrel
    by_cases hlt : k < 32
    · have hc : wr.cell? ⟨w.heap.size, k, none⟩ = some (.int .u8 (d.getD k 0)) := by
        have := get8 (range_below hR1 hB (by omega)) (i := k) (by rw [HD.out]; exact hlt)
        rwa [Nat.zero_add] at this
      obtain ⟨z, hzz⟩ : ∃ z, Hid (d.getD k 0 = z) := ⟨_, rfl⟩
      rw [hzz.out] at hc
      have hsz := hB.size
      have hown2 := owns_below hown ((Below.refl wr.heap.size wr).alloc (Nat.le_refl _) (.cells #[.int .u8 z] 5))
      have hB2 : Below (w.heap.size + 1) w1 (wr.alloc (.cells #[.int .u8 z] 5)) := hB.alloc (by omega) _
      have hsrc2 := byte_src wr z
      go_wp2_with (at_builtin; refine wpList_append_own_src _ rfl _ _ 51 51 rfl (w.heap.size + 1) 5 i0 (.int .u8 0) 1 1 Tryd.underlying51 hi hz0 hz1 hz2 rfl _ k _ rfl hown2 _ 1 _ rfl hsrc2 ?c1 ?c2 ?c3 ?_)
      case c1 => unfold maxLen; omega
      case c2 => omega
      case c3 => simp; omega
      intro v4 w4 hown4 hgr4
      have hB4 := below_grown hB2 (by simp; omega) hown2 hgr4
      clear hown2 hB2 hsrc2 hgr4 hown
      go_wp2_with fail
      go_roundw
      case rel =>
        refine ⟨k + 1, by omega, by go_num, ?_, hB4⟩
        have hlk : k < d.length := by rw [HD.out]; exact hlt
        have et : d.take (k + 1) = d.take k ++ [z] := by
          rw [List.take_succ_eq_append_getElem hlk, ← hzz.out, List.getD_eq_getElem?_getD, List.getElem?_eq_getElem hlk]; rfl
        rw [et, v8_append]
        exact hown4
      case measure => simp [intOf]; omega
    · have hk32 : k = 32 := by omega
      have hkI : ¬ (k : Int) < 32 := by omega
      obtain ⟨av, cv, rfl⟩ := own_val hown
      have hfin : wr.ownsRow w.heap.size 5 1 (.slice av k cv) d.length (v8 d) := by
        have e : d.take k = d := List.take_of_length_le (by rw [HD.out]; omega)
        rw [e] at hown
        rw [HD.out, ← hk32]
        exact owns_mono hown (by omega)
      have hBf : Below w.heap.size w wr := hB1.trans (hB.mono (by omega))
      clear hown hk32
      go_wp2_with fail
      go_ret
      refine ⟨_, rfl, ?_, hBf⟩
      rw [← hcs.out]
      exact hfin
end Go.Proofs.YtbfhpgneaklgoaaDoor
