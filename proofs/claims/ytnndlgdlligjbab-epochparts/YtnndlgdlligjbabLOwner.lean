/- leaders.Owner: a contract. -/
import Derived.Test.YtnndlgdlligjbabLList
namespace Go.Proofs.Ytnndlgdlligjbab
open Go.RowKit Go.Shelf
theorem ownerI_no {c : Cfg} {x b : Int} {zs : List Int} (h : mayC c x = false) : ownerI c x zs b = -1 := by simp [ownerI, h]
theorem ownerI_out {c : Cfg} {x b : Int} {zs : List Int} (h : ¬ (0 ≤ b ∧ b < c.bu)) : ownerI c x zs b = -1 := by
  unfold ownerI; rw [if_neg (fun hh => h hh.2)]
theorem ownerI_yes {c : Cfg} {N E b : Nat} {zs : List Int} (h : mayC c (E : Int) = true) (hn : c.n = (N : Int)) (hb : (b : Int) < c.bu) : ownerI c (E : Int) zs (b : Int) = ownI N E zs b := by
  unfold ownerI; rw [if_pos ⟨h, by omega, hb⟩, hn]; simp
end Go.Proofs.Ytnndlgdlligjbab
