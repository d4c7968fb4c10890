/- crc24.stepsFrom: the box and the table that its closure holds. -/
import Derived.Test.YtiihfjoikoogfabClos
namespace Go.Proofs.Ytiihfjoikoogfab
open Go.RowKit
open Crc

/-- 'the box at B holds the sum, the table lies at B + 1' -/
def Boxed (B : Nat) (x : BitVec 24) (w : World) : Prop :=
  w.cell? ⟨B, 0, none⟩ = some (.int .i64 (x.toNat : Int)) ∧ w.frozen? ⟨B, 0, none⟩ = false ∧ (∀ j, j < 16 → w.cell? ⟨B + 1, j, none⟩ = some (.int .i64 ((tab.getD j 0 : Nat) : Int))) ∧ B + 2 ≤ w.heap.size

def fv (B : Nat) : Value := .func (.func 15) #[] #[.pointer (some ⟨B, 0, none⟩), .pointer (some ⟨B + 1, 0, none⟩)]

set_option maxHeartbeats 400000 in
theorem stepsFrom_any (n : Int) (w : World) (x : BitVec 24) (hn : n = (x.toNat : Int)) :
   Calls Try.prog 13 #[.int .i64 n] w fun e w' => e = .returned (fv w.heap.size) ∧ Boxed w.heap.size x w' ∧ Below w.heap.size w w' := by
  have hmf : ∀ (fn : Fn) (first cap : Array Value) (w : World), (Instr.makeFunc fn first cap).run Try.prog w = .ok (.func fn first cap) w := fun _ _ _ _ => rfl
  subst hn
  go_enter Try.func13, Try.ntmps13
  go_wp2
  go_ret
  refine ⟨rfl, ⟨?_, ?_, ?_, by simp⟩, ((Below.refl _ _).alloc (Nat.le_refl _) _).alloc (by simp) _⟩
  · rw [World.cell?_alloc_past _ _ _ (by simp), World.cell?_alloc_at _ _ _ _ rfl]; rfl
  · rw [World.frozen?_alloc_past _ _ _ (by simp), World.frozen?_alloc_at _ _ _ _ rfl]
  · intro j hj
    rw [World.cell?_alloc_at _ _ _ _ (by simp)]
    match j, hj with
    | 0, _ => rfl
    | 1, _ => rfl
    | 2, _ => rfl
    | 3, _ => rfl
    | 4, _ => rfl
    | 5, _ => rfl
    | 6, _ => rfl
    | 7, _ => rfl
    | 8, _ => rfl
    | 9, _ => rfl
    | 10, _ => rfl
    | 11, _ => rfl
    | 12, _ => rfl
    | 13, _ => rfl
    | 14, _ => rfl
    | 15, _ => rfl
    | n + 16, h => omega

theorem crc_take (x : BitVec 24) (zs : List Int) (k : Nat) (h : k < zs.length) : crc x (zs.take (k + 1)) = stepB (crc x (zs.take k)) (zs.getD k 0) := by
  rw [List.take_succ_eq_append_getElem h, crc_append, List.getD_eq_getElem?_getD, List.getElem?_eq_getElem h]; rfl
theorem low_bits (n : Int) : bits .and .i64 n 16777215 = ((BitVec.ofInt 24 n).toNat : Int) := by
  rw [i64_low24, BitVec.toNat_ofInt]; omega
end Go.Proofs.Ytiihfjoikoogfab
