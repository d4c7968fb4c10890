/- The readers: Text, Left, Done of the document's, Done of the program's. -/
import Derived.Test.YtnjlamcpfclgaaaTyRefRead
namespace Go.Proofs.Ytnjlamcpfclgaaa.Ty
open Go.RowKit
open Tal
variable {B : Nat}
set_option maxHeartbeats 800000 in
theorem refLeft_any (X : Nat) (rest : List Int) (e : Int) (w : World) (h : RSt B w X rest e) :
    Calls Try.prog 28 #[.pointer (some ⟨X, 0, none⟩)] w fun en w' => en = .returned (.int .i64 (if e = 0 then (rest.length : Int) else 0)) ∧ ∃ k, w' = w.drewN k := by
  obtain ⟨zs, p, hR, hd⟩ := h
  have h2 := hR.2.2.2.1
  have h1 := hR.2.2.1
  have hpl := hR.2.2.2.2.2.2.2.1
  have hl5 := hR.2.2.2.2.2.2.2.2
  obtain ⟨a, cap, h0, hc, hm, hr⟩ := hR.rest
  by_cases he : e = 0
  · subst he
    have hd := hd rfl
    have HI : Hid ((if (0 : Int) = 0 then (rest.length : Int) else 0) = (zs.length : Int) - p) := by show _ = _; rw [if_pos rfl, ← hd, List.length_drop]; omega
    generalize (if (0 : Int) = 0 then (rest.length : Int) else 0) = q at *
    clear hd
    go_enter Try.func28, Try.ntmps28
    go_wp2_with fail
    go_quiet (fail)
    go_wp2_with fail
    go_ret
    rw [HI.out]
    exact ⟨rfl, _, rfl⟩
  · have he' : (e == 0) = false := by simpa using he
    have HI : Hid ((if e = 0 then (rest.length : Int) else 0) = 0) := if_neg he
    generalize (if e = 0 then (rest.length : Int) else 0) = q at *
    go_enter Try.func28, Try.ntmps28
    go_wp2_with fail
    go_ret
    rw [HI.out]
    exact ⟨rfl, 0, rfl⟩
/-- what Done tells -/
def doneR (rest : List Int) (e : Int) : Int := if e = 0 then (if rest.length = 0 then 0 else 12) else e
end Go.Proofs.Ytnjlamcpfclgaaa.Ty
