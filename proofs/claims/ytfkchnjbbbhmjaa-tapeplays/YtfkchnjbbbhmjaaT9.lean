/- tape: the chapter's example -/
import Derived.Test.YtfkchnjbbbhmjaaT8b
import Derived.Lib.SlBytesConst
import Derived.SliceStrings
namespace Go.Proofs.Ytfkchnjbbbhmjaa
open Go.RowKit
def strOf (zs : List Int) : ByteArray := zs.foldl (fun r n => r.push (UInt8.ofNat n.toNat)) ByteArray.empty
theorem row_str {w : World} {a : Option Addr} {cap : Nat} {zs : List Int} (h : RowAt w a zs) : (convert 29 9 (.slice a zs.length cap)).run Try.prog w = .ok (.string (strOf zs)) w := by
  rw [run_convert_bytes_string w 29 9 5 a zs.length cap Try.underlying29 Try.underlying5 Try.underlying9]
  cases a with
  | none =>
    have hnil : zs = [] := by
      rcases h.2.2 with q | ⟨b, off, hx, _⟩
      · exact q
      · cases hx
    subst hnil
    rfl
  | some x =>
    rcases h.2.2 with rfl | ⟨b, off, hx, _, hr⟩
    · have := run_loadCells_list (P := Try.prog) w x [] (fun j v hv => by simp at hv)
      exact run_bytesToString w x 0 cap [] this
    · cases hx
      have := run_loadCells_list (P := Try.prog) w ⟨b, off, none⟩ (v8 zs) (fun j v hv => by rw [Addr.add_mid]; exact hr j v hv)
      rw [v8_length] at this
      exact run_bytesToString w ⟨b, off, none⟩ zs.length cap zs this
theorem range_mark (w : World) (arr : Array Value) (t : TypeId) (m : Nat × Nat) : (w.alloc (.cells arr t m)).rangeAt w.heap.size 0 arr.toList := fun j v hv => by
  rw [World.cell?_alloc_mark, Nat.zero_add]
  simpa using hv
theorem mark_row (w : World) (zs : List Int) (m : Nat × Nat) (hz : ∀ z ∈ zs, 0 ≤ z ∧ z < 256) (hl : zs.length ≤ 1000) (arr : Array Value) (harr : arr.toList = v8 zs) : RowAt (w.alloc (.cells arr 5 m)) (some ⟨w.heap.size, 0, none⟩) zs := by
  have hr := range_mark w arr 5 m
  rw [harr] at hr
  exact ⟨by unfold maxLen; omega, hz, .inr ⟨w.heap.size, 0, rfl, by simp, hr⟩⟩
def L1 : Mt := ((Mt.new 100).append 0 [97, 98]).2
def L2 : Mt := (L1.sync 0).2
def L3 : Mt := (L2.append 0 [99, 100]).2
def L4 : Mt := (L3.fail 1).2
def L5 : Mt := { L4 with on := true }
theorem L1e : (Mt.new 100).append 0 [97, 98] = (0, L1) := rfl
theorem L2e : L1.sync 0 = (0, L2) := rfl
theorem L3e : L2.append 0 [99, 100] = (0, L3) := rfl
theorem L4e : L3.fail 1 = (0, L4) := rfl
theorem L5r : L5.read 0 = [97, 98, 99] := rfl
theorem L5f : L5.fault 0 = 0 := rfl
theorem L5s : L5.sa = 3 := rfl
theorem abc_str : strOf [97, 98, 99] = ⟨#[97, 98, 99]⟩ := by rfl
set_option maxRecDepth 100000 in
set_option maxHeartbeats 4000000 in
theorem lives_any (w : World) : Calls Try.prog 11 #[] w fun e w' => e = .returned (.bool true) ∧ Below w.heap.size w w' := by
  have c1 := live_new 100 w (by omega) (by omega)
  go_enter Try.func11, Try.ntmps11
  go_wp2_with fail
  refine c1.mono ?_
  rintro e w1 ⟨rfl, hB1, hT1⟩
  clear c1
  have lt0 : ∀ b, (fun b => b < w.heap.size) b → b < w1.heap.size := fun b hb => Nat.lt_of_lt_of_le hb hB1.size
  have kc := Lib.run_convert_bytes_const (P := Try.prog) w1 29 5 #[.int .u8 97, .int .u8 98] 2 2 Try.underlying29 Try.underlying5
  have hB2 : Below w1.heap.size w1 (w1.alloc (.cells #[.int .u8 97, .int .u8 98] 5 (2, 3))) := (Below.refl _ _).alloc (Nat.le_refl _) _
  have hR2 : RowAt (w1.alloc (.cells #[.int .u8 97, .int .u8 98] 5 (2, 3))) (some ⟨w1.heap.size, 0, none⟩) [97, 98] := mark_row w1 [97, 98] (2, 3) (by decide) (by decide) _ rfl
  have c2 := live_append (hT1.widen hB2) (More.lt lt0 hB2.size) 0 _ 2 [97, 98] hR2 (.inr (fun x hx => by
    cases hx
    exact .inr (by simp)))
  rw [L1e] at c2
  clear hT1 hR2
  go_wp2_with fail
  refine c2.mono ?_
  rintro e w2 ⟨rfl, hT2, hO2⟩
  have hB3 : Below w.heap.size w w2 := (hB1.trans (hB2.mono hB1.size)).trans (hO2.below (by have := hB1.size; simp; omega) (fun b hb q => q (.inl hb)))
  have hT2 := hT2.narrow (A' := fun b => b < w.heap.size) (fun b hb => .inl hb)
  clear c2 kc hO2 hB2 hB1 lt0
  have lt2 : ∀ b, (fun b => b < w.heap.size) b → b < w2.heap.size := fun b hb => Nat.lt_of_lt_of_le hb hB3.size
  have c3 := live_sync hT2 lt2 0
  rw [L2e] at c3
  go_wp2_with fail
  refine c3.mono ?_
  rintro e w3 ⟨rfl, hT3, hO3⟩
  have hB4 : Below w.heap.size w w3 := hB3.trans (hO3.below hB3.size (fun b hb q => q hb))
  clear c3 hT2 hO3 hB3 lt2
  have lt3 : ∀ b, (fun b => b < w.heap.size) b → b < w3.heap.size := fun b hb => Nat.lt_of_lt_of_le hb hB4.size
  have kc := Lib.run_convert_bytes_const (P := Try.prog) w3 29 5 #[.int .u8 99, .int .u8 100] 2 2 Try.underlying29 Try.underlying5
  have hB5 : Below w3.heap.size w3 (w3.alloc (.cells #[.int .u8 99, .int .u8 100] 5 (2, 3))) := (Below.refl _ _).alloc (Nat.le_refl _) _
  have hR5 : RowAt (w3.alloc (.cells #[.int .u8 99, .int .u8 100] 5 (2, 3))) (some ⟨w3.heap.size, 0, none⟩) [99, 100] := mark_row w3 [99, 100] (2, 3) (by decide) (by decide) _ rfl
  have c4 := live_append (hT3.widen hB5) (More.lt lt3 hB5.size) 0 _ 2 [99, 100] hR5 (.inr (fun x hx => by
    cases hx
    exact .inr (by simp)))
  rw [L3e] at c4
  clear hT3 hR5
  go_wp2_with fail
  refine c4.mono ?_
  rintro e w4 ⟨rfl, hT4, hO4⟩
  have hB6 : Below w.heap.size w w4 := (hB4.trans (hB5.mono hB4.size)).trans (hO4.below (by have := hB4.size; simp; omega) (fun b hb q => q (.inl hb)))
  have hT4 := hT4.narrow (A' := fun b => b < w.heap.size) (fun b hb => .inl hb)
  clear c4 kc hO4 hB5 hB4 lt3
  have lt4 : ∀ b, (fun b => b < w.heap.size) b → b < w4.heap.size := fun b hb => Nat.lt_of_lt_of_le hb hB6.size
  have c5 := live_fail hT4 lt4 1
  rw [L4e] at c5
  go_wp2_with fail
  refine c5.mono ?_
  rintro e w5 ⟨rfl, hT5, hO5⟩
  have hB7 : Below w.heap.size w w5 := hB6.trans (hO5.below hB6.size (fun b hb q => q hb))
  clear c5 hT4 hO5 hB6 lt4
  have lt5 : ∀ b, (fun b => b < w.heap.size) b → b < w5.heap.size := fun b hb => Nat.lt_of_lt_of_le hb hB7.size
  have c6 := live_power hT5 lt5
  go_wp2_with fail
  refine c6.mono ?_
  rintro e w6 ⟨rfl, hT6, hO6⟩
  have hB8 : Below w.heap.size w w6 := hB7.trans (hO6.below hB7.size (fun b hb q => q hb))
  have hT6 : Live (fun b => b < w.heap.size) w6 w.heap.size L5 := hT6
  clear c6 hT5 hO6 hB7 lt5
  have c7 := live_read hT6 0
  rw [L5r, L5f] at c7
  go_wp2_with fail
  refine c7.mono ?_
  rintro e w7 ⟨ra, rcap, rfl, hR7, hB9, -⟩
  have c8 := live_sure (hT6.below hB9) 0
  rw [L5s, if_pos rfl] at c8
  have kr : (convert 29 9 (.slice ra 3 rcap)).run Try.prog w7 = .ok (.string ⟨#[97, 98, 99]⟩) w7 := row_str (cap := rcap) hR7
  have hBF := hB8.trans (hB9.mono hB8.size)
  clear c7 hT6 hR7 hB9 hB8
  go_wp2_with fail
  refine c8.mono ?_
  rintro e w8 ⟨rfl, hx⟩
  obtain rfl := hx.symm
  clear hx c8
  go_wp2_with fail
  go_ret
  exact ⟨rfl, hBF⟩
end Go.Proofs.Ytfkchnjbbbhmjaa
