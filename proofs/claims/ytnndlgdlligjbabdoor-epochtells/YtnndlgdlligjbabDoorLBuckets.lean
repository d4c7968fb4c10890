/- leaders.Buckets: a contract. -/
import Derived.Test.YtnndlgdlligjbabDoorLRows2
namespace Go.Proofs.YtnndlgdlligjbabDoor.Ld
open Go.RowKit Go.Shelf
theorem bucketsL_no {c : Cfg} {x y : Int} {zs : List Int} (h : mayC c x = false) : bucketsL c x zs y = [] := by simp [bucketsL, h]
theorem bucketsL_out {c : Cfg} {x y : Int} {zs : List Int} (h : ¬ (0 ≤ y ∧ y < c.n ∧ y ∈ zs)) : bucketsL c x zs y = [] := by
  unfold bucketsL; rw [if_neg (fun hh => h hh.2)]
theorem bucketsL_yes {c : Cfg} {N B E y : Nat} {zs : List Int} (h : mayC c (E : Int) = true) (hn : c.n = (N : Int)) (hb : c.bu = (B : Int)) (hy : y < N) (hz : (y : Int) ∈ zs) : bucketsL c (E : Int) zs (y : Int) = bucketsN N B E zs y := by
  unfold bucketsL; rw [if_pos ⟨h, by omega, by omega, hz⟩, hn, hb]; simp
theorem firstU_yes {N E y k : Nat} (h : (k + E) % N = y) : firstU N E y (k + 1) = firstU N E y k ++ [k] := filter_yes _ _ (decide_eq_true h)
theorem firstU_no {N E y k : Nat} (h : ¬ (k + E) % N = y) : firstU N E y (k + 1) = firstU N E y k := filter_no _ _ (decide_eq_false h)
theorem otherU_yes {N E y k : Nat} {zs : List Int} (h : ¬ (k + E) % N = y) (h2 : ownI N E zs k = (y : Int)) : otherU N E zs y (k + 1) = otherU N E zs y k ++ [k] := filter_yes _ _ (decide_eq_true ⟨h, h2⟩)
theorem otherU_no1 {N E y k : Nat} {zs : List Int} (h : (k + E) % N = y) : otherU N E zs y (k + 1) = otherU N E zs y k := filter_no _ _ (decide_eq_false (fun hh => hh.1 h))
theorem otherU_no2 {N E y k : Nat} {zs : List Int} (h : ¬ ownI N E zs k = (y : Int)) : otherU N E zs y (k + 1) = otherU N E zs y k := filter_no _ _ (decide_eq_false (fun hh => h hh.2))
end Go.Proofs.YtnndlgdlligjbabDoor.Ld
