/- the chapter's example: raddlelaw03.lives -/
import Derived.Test.YtkadfmbpajbkiaaDoorText
import Derived.Lib.SlBytesConst
namespace Go.Proofs.YtkadfmbpajbkiaaDoor
open Go.RowKit
open Sha
theorem one_part (w : World) (arr : Array Value) (p : Part) (hp : p.at w) (harr : arr = #[p.val]) : PartsAt (w.alloc (.cells arr 27)) (some ⟨w.heap.size, 0, none⟩) [p] := by
  subst harr
  have hB : Below w.heap.size w (w.alloc (.cells #[p.val] 27)) := (Below.refl _ _).alloc (Nat.le_refl _) _
  refine ⟨by unfold maxLen; simp, fun q hq => ?_, Or.inr ⟨w.heap.size, 0, rfl, by simp, range_new w #[p.val] 27⟩⟩
  obtain rfl := List.mem_singleton.1 hq
  exact hp.below hB
theorem range_mark (w : World) (arr : Array Value) (t : TypeId) (m : Nat × Nat) : (w.alloc (.cells arr t m)).rangeAt w.heap.size 0 arr.toList := fun j v hv => by
  rw [World.cell?_alloc_mark, Nat.zero_add]
  simpa using hv
theorem abc_ok : ∀ z ∈ [(97 : Int), 98, 99], 0 ≤ z ∧ z < 256 := by decide
theorem no_parts (w : World) : PartsAt w none [] := ⟨by unfold maxLen; simp, by simp, Or.inl rfl⟩
def abcS : ByteArray := { data := #[98, 97, 55, 56, 49, 54, 98, 102, 56, 102, 48, 49, 99, 102, 101, 97, 52, 49, 52, 49, 52, 48, 100, 101, 53, 100, 97, 101, 50, 50, 50, 51, 98, 48, 48, 51, 54, 49, 97, 51, 57, 54, 49, 55, 55, 97, 57, 99, 98, 52, 49, 48, 102, 102, 54, 49, 102, 50, 48, 48, 49, 53, 97, 100] }
def nilS : ByteArray := { data := #[101, 51, 98, 48, 99, 52, 52, 50, 57, 56, 102, 99, 49, 99, 49, 52, 57, 97, 102, 98, 102, 52, 99, 56, 57, 57, 54, 102, 98, 57, 50, 52, 50, 55, 97, 101, 52, 49, 101, 52, 54, 52, 57, 98, 57, 51, 52, 99, 97, 52, 57, 53, 57, 57, 49, 98, 55, 56, 53, 50, 98, 56, 53, 53] }
theorem abc_text : strOf (hex (sha [97, 98, 99])) = abcS := by decide +kernel
theorem nil_text : strOf (hex (sha [])) = nilS := by decide +kernel
theorem sha_length (zs : List Int) : (sha zs).length = 32 := by unfold sha; rw [bytes_out, outb_length]; rfl
theorem sha_ok (zs : List Int) : ∀ z ∈ sha zs, 0 ≤ z ∧ z < 256 := by unfold sha; rw [bytes_out]; exact outb_ok _
set_option maxRecDepth 20000 in
set_option maxHeartbeats 1000000 in
theorem lives_any (w : World) (hG : Glob w) :
   Calls Tryd.prog 10 #[] w fun e w' => e = .returned (.bool true) ∧ Below w.heap.size w w' := by
  have kc := fun (w : World) (C : Array Value) (n c : Nat) => Lib.run_convert_bytes_const (P := Tryd.prog) w 27 5 C n c Tryd.underlying27 Tryd.underlying5
  have hpa : (⟨some ⟨w.heap.size, 0, none⟩, 3, [97, 98, 99]⟩ : Part).at (w.alloc (.cells #[.int .u8 97, .int .u8 98, .int .u8 99] 5 (3, 4))) :=
    ⟨⟨by unfold maxLen; simp, abc_ok, Or.inr ⟨w.heap.size, 0, rfl, by simp, range_mark w #[.int .u8 97, .int .u8 98, .int .u8 99] 5 (3, 4)⟩⟩, by simp, by unfold maxLen; simp⟩
  have B0 : Below w.heap.size w (w.alloc (.cells #[.int .u8 97, .int .u8 98, .int .u8 99] 5 (3, 4))) := (Below.refl _ _).alloc (Nat.le_refl _) _
  have hP := one_part _ #[.slice (some ⟨w.heap.size, 0, none⟩) 3 3] _ hpa rfl
  have B1 : Below w.heap.size w ((w.alloc (.cells #[.int .u8 97, .int .u8 98, .int .u8 99] 5 (3, 4))).alloc (.cells #[.slice (some ⟨w.heap.size, 0, none⟩) 3 3] 27)) := B0.alloc (by simp) _
  have e1 : cat [(⟨some ⟨w.heap.size, 0, none⟩, 3, [97, 98, 99]⟩ : Part)] = [97, 98, 99] := rfl
  have c1 := sum_any _ 1 _ _ (hG.below B1) hP (by rw [e1]; decide)
  rw [e1] at c1
  simp only [World.size_alloc, List.length_cons, List.length_nil, Nat.zero_add] at c1
  obtain ⟨d1, hd1⟩ : ∃ d1, Hid (sha [97, 98, 99] = d1) := ⟨_, rfl⟩
  have l1 := sha_length [97, 98, 99]
  have o1 := sha_ok [97, 98, 99]
  have t1 := abc_text
  rw [hd1.out] at c1 l1 o1 t1
  clear hpa B0 hP e1
  go_enter Tryd.func10, Tryd.ntmps10
  go_wp2_with fail
  refine c1.mono ?_
  rintro e w1 ⟨rfl, hw1⟩
  clear c1
  have hB1 := B1.trans (hw1.mono (by omega))
  clear B1 hw1
  go_wp2_with fail
  refine (text_any d1 w1 l1 o1).mono ?_
  rintro e w2 ⟨rfl, hw2⟩
  rw [t1]
  unfold abcS
  have hB2 := hB1.trans (hw2.mono hB1.size)
  have hG2 := hG.below hB2
  have c2 := sum_any none 0 [] w2 hG2 (no_parts w2) (by decide)
  obtain ⟨d2, hd2⟩ : ∃ d2, Hid (sha (cat []) = d2) := ⟨_, rfl⟩
  have l2 := sha_length (cat [])
  have o2 := sha_ok (cat [])
  have t2 : strOf (hex (sha (cat []))) = nilS := nil_text
  rw [hd2.out] at c2 l2 o2 t2
  simp only [List.length_nil] at c2
  clear hw2 hB1 t1 kc
  go_wp2_with fail
  refine c2.mono ?_
  rintro e w3 ⟨rfl, hw3⟩
  clear c2
  have hB3 := hB2.trans (hw3.mono hB2.size)
  go_wp2_with fail
  refine (text_any d2 w3 l2 o2).mono ?_
  rintro e w4 ⟨rfl, hw4⟩
  rw [t2]
  unfold nilS
  have hB4 := hB3.trans (hw4.mono hB3.size)
  clear t2
  go_wp2_with fail
  go_ret
  exact ⟨rfl, hB4⟩
end Go.Proofs.YtkadfmbpajbkiaaDoor
