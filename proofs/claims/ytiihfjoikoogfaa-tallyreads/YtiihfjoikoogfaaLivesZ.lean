/- The chapter example: lives. -/
import Derived.Test.YtiihfjoikoogfaaReadZ
namespace Go.Proofs.Ytiihfjoikoogfaa
open Go.RowKit
open Tal
theorem nil_row (w : World) : RowAt w none [] := ⟨by simp, by simp, Or.inl rfl⟩
theorem three_row (w : World) : RowAt (w.alloc (.cells #[.int .u8 2, .int .u8 1, .int .u8 0] 5)) (some ⟨w.heap.size, 0, none⟩) [2, 1, 0] := by
  refine ⟨by decide, by decide, Or.inr ⟨w.heap.size, 0, rfl, by simp, fun j hj => ?_⟩⟩
  rw [World.cell?_alloc_at _ _ _ _ rfl]
  simp only [List.length_cons, List.length_nil] at hj
  match j, hj with
  | 0, _ => rfl
  | 1, _ => rfl
  | 2, _ => rfl
  | n + 3, h => omega
theorem Mine.str {w : World} {B : Nat} {v : Value} {zs : List Int} (h : Mine w B v zs) (hm : zs.length ≤ maxLen) : (convert 22 9 v).run Try.prog w = .ok (.string (strOf zs)) w := by
  obtain ⟨a, cap, rfl, _, _, hr⟩ := h.rowAt hm
  exact hr.str cap
set_option maxHeartbeats 1600000 in
theorem lives_any (w : World) : Calls Try.prog 9 #[] w fun e w' => e = .returned (.bool true) ∧ Below w.heap.size w w' := by
  have p0 := fun w => put_any none 0 [] 0 w (nil_row w) (by simp) (by omega)
  have p1 := fun w => put_any none 0 [] 255 w (nil_row w) (by simp) (by omega)
  have p2 := fun w => put_any none 0 [] 256 w (nil_row w) (by simp) (by omega)
  have e0 : ([] ++ putL 0 : List Int) = [0] := by decide
  have e1 : ([] ++ putL 255 : List Int) = [1, 255] := by decide
  have e2 : ([] ++ putL 256 : List Int) = [2, 1, 0] := by decide
  rw [e0] at p0
  rw [e1] at p1
  rw [e2] at p2
  clear e0 e1 e2
  go_enter Try.func9, Try.ntmps9
  go_wp2_with fail
  refine (p0 w).mono ?_
  rintro e w1 ⟨v, rfl, hm1, hb1⟩
  have s1 := hm1.str (by decide)
  have s1' : strOf [0] = ⟨#[0]⟩ := rfl
  rw [s1'] at s1
  clear s1'
  go_wp2_with fail
  refine (p1 w1).mono ?_
  rintro e w2 ⟨v2, rfl, hm2, hb2⟩
  clear s1
  have s2 := hm2.str (by decide)
  have s2' : strOf [1, 255] = ⟨#[1, 255]⟩ := rfl
  rw [s2'] at s2
  clear s2'
  go_wp2_with fail
  refine (p2 w2).mono ?_
  rintro e w3 ⟨v3, rfl, hm3, hb3⟩
  clear s2
  have s3 := hm3.str (by decide)
  have s3' : strOf [2, 1, 0] = ⟨#[2, 1, 0]⟩ := rfl
  rw [s3'] at s3
  clear s3'
  go_wp2_with fail
  refine (read_any _ 3 [2, 1, 0] _ (three_row w3) (by decide)).mono ?_
  rintro e w4 ⟨R, rfl, hR, hSt, hb4⟩
  clear s3
  have cN := num_any R [2, 1, 0] 0 256 w4 hSt
  have eN : (numS [2, 1, 0] 0 256).1 = 256 := by decide
  rw [eN] at cN
  go_wp2_with fail
  refine cN.mono ?_
  rintro e w5 ⟨rfl, hSt5, hg5⟩
  go_wp2_with fail
  go_ret
  have B3 : Below w.heap.size w w3 := (hb1.trans (hb2.mono hb1.size)).trans (hb3.mono (Nat.le_trans hb1.size hb2.size))
  have B4 : Below w.heap.size w w4 := (B3.alloc B3.size _).trans (hb4.mono (by have := B3.size; simp; omega))
  refine ⟨rfl, B4.grown hg5 B4.size (fun k hk => ?_)⟩
  cases hk
  have := B3.size
  simp at hR
  omega
theorem lives_end (w0 : World) {w : World} (hb : Below w0.heap.size w0 w) : Calls Try.prog 9 #[] w fun e w' => e = .returned (.bool true) ∧ Below w0.heap.size w0 w' :=
  (lives_any w).mono fun _ _ ⟨he, h⟩ => ⟨he, hb.trans (h.mono hb.size)⟩
end Go.Proofs.Ytiihfjoikoogfaa
