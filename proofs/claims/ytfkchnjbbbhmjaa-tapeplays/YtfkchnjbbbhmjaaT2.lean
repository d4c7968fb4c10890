/- tape's areas: size, cut, settle, empty, lose -/
import Derived.Test.YtfkchnjbbbhmjaaT1
namespace Go.Proofs.Ytfkchnjbbbhmjaa
open Go.RowKit
set_option maxRecDepth 100000 in
set_option maxHeartbeats 2000000 in
theorem size_any (p o : Nat) (a : Option Addr) (n cap : Nat) (w : World) (h : w.cell? ⟨p, o, none⟩ = some (.slice a n cap)) :
    Calls Try.prog 55 #[.pointer (some ⟨p, o, none⟩)] w fun e w' => e = .returned (.int .i64 (n : Int)) ∧ w' = w := by
  go_enter Try.func55, Try.ntmps55
  go_wp2_with fail
  go_ret
  exact ⟨rfl, rfl⟩
set_option maxRecDepth 100000 in
set_option maxHeartbeats 2000000 in
theorem settle_any (p o : Nat) (a : Option Addr) (n cap : Nat) (u : Value) (w : World) (h : w.cell? ⟨p, o, none⟩ = some (.slice a n cap)) (h1 : w.cell? ⟨p, o + 1, none⟩ = some u) (hf : w.frozen? ⟨p, o + 1, none⟩ = false) :
    Calls Try.prog 47 #[.pointer (some ⟨p, o, none⟩)] w fun e w' => e = .returned (.tuple #[]) ∧ w' = w.setCell ⟨p, o + 1, none⟩ (.int .i64 (n : Int)) := by
  have cs := size_any p o a n cap w h
  go_enter Try.func47, Try.ntmps47
  go_wp2_with fail
  refine cs.mono ?_
  rintro e w' ⟨rfl, hw⟩
  obtain rfl := hw.symm
  clear cs hw
  go_wp2_with fail
  go_end0
  exact ⟨rfl, rfl⟩
set_option maxRecDepth 100000 in
set_option maxHeartbeats 2000000 in
theorem empty_any (p o : Nat) (u v : Value) (w : World) (h : w.cell? ⟨p, o, none⟩ = some u) (hf0 : w.frozen? ⟨p, o, none⟩ = false) (h1 : w.cell? ⟨p, o + 1, none⟩ = some v) (hf : w.frozen? ⟨p, o + 1, none⟩ = false) :
    Calls Try.prog 49 #[.pointer (some ⟨p, o, none⟩)] w fun e w' => e = .returned (.tuple #[]) ∧ w' = (w.setCell ⟨p, o, none⟩ (.slice none 0 0)).setCell ⟨p, o + 1, none⟩ (.int .i64 0) := by
  go_enter Try.func49, Try.ntmps49
  go_wp2_with fail
  go_end0
  exact ⟨rfl, rfl⟩
set_option maxRecDepth 100000 in
set_option maxHeartbeats 2000000 in
theorem cut_some (p o g n cap m : Nat) (w : World) (h : w.cell? ⟨p, o, none⟩ = some (.slice (some ⟨g, 0, none⟩) n cap)) (hf : w.frozen? ⟨p, o, none⟩ = false) (hn : n ≤ cap) (hm : m ≤ n) :
    Calls Try.prog 97 #[.pointer (some ⟨p, o, none⟩), .int .i64 (m : Int)] w fun e w' => e = .returned (.tuple #[]) ∧ w' = w.setCell ⟨p, o, none⟩ (.slice (some ⟨g, 0, none⟩) m cap) := by
  have h1 : (0 : Int) ≤ (m : Int) := by omega
  have h2 : (m : Int) ≤ (cap : Int) := by omega
  have h3 : ¬ (cap : Int) < (m : Int) := by omega
  have h4 : m ≤ cap := by omega
  go_enter Try.func97, Try.ntmps97
  go_wp2_with fail
  go_end0
  exact ⟨rfl, rfl⟩
end Go.Proofs.Ytfkchnjbbbhmjaa
