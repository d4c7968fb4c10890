/- Parse and the document's: contracts -/
import Derived.Test.YtkadfmbpajbkiaaDoorTx1
namespace Go.Proofs.YtkadfmbpajbkiaaDoor
open Go.RowKit
open Sha
def sb (s : ByteArray) (j : Nat) : Int := ((s.data[j]?).getD 0).toNat
theorem sb_ok (s : ByteArray) (j : Nat) : 0 ≤ sb s j ∧ sb s j < 256 := by
  unfold sb
  have := ((s.data[j]?).getD 0).toNat_lt
  omega
theorem str_idx (s : ByteArray) (j : Nat) (hj : j < s.size) (i : Int) (hi : i = (j : Int)) (w : World) : (Instr.index 9 (.string s) (.int .i64 i)).run Tryd.prog w = .ok (.int .u8 (sb s j)) w := by
  subst hi
  simp only [Instr.index, asIntOf, Sem.run_bind, Sem.run_pure, Result.andThen_ok, run_underlying Tryd.underlying9]
  rw [if_pos (by omega)]
  simp [sb, hj]
  try rfl
def pv (s : ByteArray) (j : Nat) : Int := valOf (sb s j)
theorem pv_rng (s : ByteArray) (j : Nat) : 0 ≤ pv s j ∧ pv s j ≤ 16 := by
  unfold pv valOf
  split
  · omega
  · split <;> omega
def outB (s : ByteArray) (k : Nat) : List Int := (List.range k).map fun i => 16 * pv s (2 * i) + pv s (2 * i + 1)
theorem outB_length (s : ByteArray) (k : Nat) : (outB s k).length = k := by simp [outB]
theorem outB_succ (s : ByteArray) (k : Nat) : outB s (k + 1) = outB s k ++ [16 * pv s (2 * k) + pv s (2 * k + 1)] := by simp [outB, List.range_succ]
def zeros32 : List Int := List.replicate 32 0
theorem zeros32_length : zeros32.length = 32 := by simp [zeros32]
def Fine (s : ByteArray) : Prop := s.size = 64 ∧ ∀ j, j < 64 → pv s j < 16
instance (s : ByteArray) : Decidable (Fine s) := by unfold Fine; exact inferInstance
def parseOf (s : ByteArray) : List Int × Int := if Fine s then (outB s 32, 0) else (zeros32, 11)
theorem parse_yes {s : ByteArray} (h : Fine s) : parseOf s = (outB s 32, 0) := if_pos h
theorem parse_no {s : ByteArray} (h : ¬ Fine s) : parseOf s = (zeros32, 11) := if_neg h
theorem or16 : ∀ v u : Fin 16, bits .or .u8 (16 * (v.val : Int)) (u.val : Int) = 16 * v.val + u.val := by decide +kernel
theorem or16' (v u : Int) (hv : 0 ≤ v ∧ v < 16) (hu : 0 ≤ u ∧ u < 16) : bits .or .u8 (16 * v) u = 16 * v + u := by
  have := or16 ⟨v.toNat, by omega⟩ ⟨u.toNat, by omega⟩
  simp only [Int.toNat_of_nonneg hv.1, Int.toNat_of_nonneg hu.1] at this
  exact this
/-- the two arrays between two rounds -/
structure PAt (w : World) (s : ByteArray) (k : Nat) (W : World) : Prop where
  bel : Below w.heap.size w W
  big : w.heap.size + 1 < W.heap.size
  r0 : W.rangeAt w.heap.size 0 (v8 zeros32)
  t0 : W.there w.heap.size 0 32
  r1 : W.rangeAt (w.heap.size + 1) 0 (v8 (outB s k ++ List.replicate (32 - k) (0 : Int)))
  t1 : W.there (w.heap.size + 1) 0 32
theorem PAt.start (w : World) (s : ByteArray) : PAt w s 0 ((w.alloc (.cells (Array.replicate 32 (.int .u8 0)) 24)).alloc (.cells (Array.replicate 32 (.int .u8 0)) 24)) := by
  have b1 : Below w.heap.size w (w.alloc (.cells (Array.replicate 32 (.int .u8 0)) 24)) := (Below.refl _ _).alloc (Nat.le_refl _) _
  have b2 : Below (w.alloc (.cells (Array.replicate 32 (.int .u8 0)) 24)).heap.size (w.alloc (.cells (Array.replicate 32 (.int .u8 0)) 24)) ((w.alloc (.cells (Array.replicate 32 (.int .u8 0)) 24)).alloc (.cells (Array.replicate 32 (.int .u8 0)) 24)) := (Below.refl _ _).alloc (Nat.le_refl _) _
  have n1 := new_bytes w 32 24
  have n2 := new_bytes (w.alloc (.cells (Array.replicate 32 (.int .u8 0)) 24)) 32 24
  refine ⟨b1.trans (b2.mono b1.size), by simp, range_below n1.1 b2 (by simp), there_below n1.2 b2 (by simp), ?_, ?_⟩
  · have := n2.1
    simpa [outB] using this
  · have := n2.2
    simpa using this
theorem PAt.step {w : World} {s : ByteArray} {k : Nat} {W : World} (h : PAt w s k W) (hk : k < 32) (z : Int) (hz : z = 16 * pv s (2 * k) + pv s (2 * k + 1)) : PAt w s (k + 1) (W.setCell ⟨w.heap.size + 1, k, none⟩ (.int .u8 z)) where
  bel := h.bel.setCell (by show w.heap.size ≤ w.heap.size + 1; omega) _
  big := by have := h.big; simpa using this
  r0 := range_other h.r0 _ _ (fun e => by simp at e)
  t0 := there_set h.t0 _ _
  r1 := by
    have := range_set h.r1 k (.int .u8 z)
    rw [Nat.zero_add] at this
    have e : (v8 (outB s k ++ List.replicate (32 - k) (0 : Int))).set k (.int .u8 z) = v8 (outB s (k + 1) ++ List.replicate (32 - (k + 1)) (0 : Int)) := by
      have q := set_fillI (outB s k) (32 - k) z (by omega)
      rw [outB_length] at q
      unfold v8
      rw [← List.map_set, q, outB_succ, hz]
      rfl
    rw [e] at this
    exact this
  t1 := there_set h.t1 _ _
theorem load24 {w : World} {b : Nat} {t : List Int} (h : t.length = 32) (hr : w.rangeAt b 0 (v8 t)) : (loadVar 24 ⟨b, 0, none⟩).run Tryd.prog w = .ok (.agg (v8 t).toArray) w :=
  run_loadVar_mid (P := Tryd.prog) w b 0 24 (v8 t) _ hr Tryd.underlying24 rfl (by rw [v8_length, h]; exact isz24)
end Go.Proofs.YtkadfmbpajbkiaaDoor
