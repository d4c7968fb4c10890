/- the document's Owner, Buckets: contracts. -/
import Derived.Test.YtnndlgdlligjbabLRef1
namespace Go.Proofs.Ytnndlgdlligjbab
open Go.RowKit Go.Shelf
theorem ownI_at {N E b k : Nat} {zs : List Int} (hk : k < N) (h : ∀ j, j < k → memB zs ((b + E + j) % N) = false) (hp : memB zs ((b + E + k) % N) = true) : ownI N E zs b = (((b + E + k) % N : Nat) : Int) := by
  unfold ownI
  rw [own_mod, own_at hk (fun x hx => ?_) hp]
  · rfl
  · simp only [roundF, List.mem_map, List.mem_range] at hx
    obtain ⟨j, hj, rfl⟩ := hx
    exact h j hj
theorem ownI_none {N E b : Nat} {zs : List Int} (h : ∀ j, j < N → memB zs ((b + E + j) % N) = false) : ownI N E zs b = -1 := by
  unfold ownI
  rw [own_mod, own_no (fun x hx => ?_)]
  · rfl
  · simp only [roundF, List.mem_map, List.mem_range] at hx
    obtain ⟨j, hj, rfl⟩ := hx
    exact h j hj
/-- the document's way: those whose owner the node is, and whose turn it is -/
def firstR (N e : Nat) (l : List Int) (node : Nat) (k : Nat) : List Nat := (List.range k).filter fun b => decide ((b + e) % N = node ∧ ownI N e l b = (node : Int))
theorem firstR_yes {N E Y k : Nat} {zs : List Int} (h : (k + E) % N = Y) (h2 : ownI N E zs k = (Y : Int)) : firstR N E zs Y (k + 1) = firstR N E zs Y k ++ [k] := filter_yes _ _ (decide_eq_true ⟨h, h2⟩)
theorem firstR_no1 {N E Y k : Nat} {zs : List Int} (h : ¬ (k + E) % N = Y) : firstR N E zs Y (k + 1) = firstR N E zs Y k := filter_no _ _ (decide_eq_false (fun hh => h hh.1))
theorem firstR_no2 {N E Y k : Nat} {zs : List Int} (h : ¬ ownI N E zs k = (Y : Int)) : firstR N E zs Y (k + 1) = firstR N E zs Y k := filter_no _ _ (decide_eq_false (fun hh => h hh.2))
theorem ownI_lead {N E b Y : Nat} {zs : List Int} (h : ownI N E zs b = (Y : Int)) (hN : 1 ≤ N) : Y < N ∧ (Y : Int) ∈ zs := by
  unfold ownI at h
  cases ho : ownO N (memB zs) ((b + E) % N) with
  | none => rw [ho] at h; simp [optI] at h
  | some j =>
    rw [ho] at h
    have hj : j = Y := by simp [optI] at h; omega
    subst hj
    have := own_some ho
    exact ⟨this.2 hN, by simpa [memB] using this.1⟩
theorem filter_nil {p : Nat → Bool} {l : List Nat} (h : ∀ x ∈ l, p x = false) : l.filter p = [] := by
  rw [List.filter_eq_nil_iff]; intro x hx; rw [h x hx]; simp
theorem filter_same {p q : Nat → Bool} {l : List Nat} (h : ∀ x ∈ l, p x = q x) : l.filter p = l.filter q := List.filter_congr h
theorem bucketsL_ref {c : Cfg} {N B E Y : Nat} {zs : List Int} (h : mayC c (E : Int) = true) (ok : CfgOk c N B) : bucketsL c (E : Int) zs (Y : Int) = firstR N E zs Y B ++ otherU N E zs Y B := by
  have hN : 1 ≤ N := by have := ok.n4; omega
  by_cases hl : Y < N ∧ (Y : Int) ∈ zs
  · rw [bucketsL_yes h ok.n ok.b hl.1 hl.2]
    unfold bucketsN
    congr 1
    refine filter_same fun b _ => decide_eq_decide.2 ⟨fun h1 => ⟨h1, ?_⟩, fun h1 => h1.1⟩
    unfold ownI
    rw [own_mod, own_first (by omega) (by rw [h1]; exact decide_eq_true hl.2), h1]
    rfl
  · rw [bucketsL_out (fun hh => hl ⟨by have := ok.n; omega, hh.2.2⟩)]
    have e1 : firstR N E zs Y B = [] := filter_nil fun b _ => decide_eq_false (fun hh => hl (ownI_lead hh.2 hN))
    have e2 : otherU N E zs Y B = [] := filter_nil fun b _ => decide_eq_false (fun hh => hl (ownI_lead hh.2 hN))
    rw [e1, e2]; rfl
theorem rem3 (b e k N : Nat) : ((b : Int) + (e : Int) + (k : Int)) % (N : Int) = (((b + e + k) % N : Nat) : Int) := by simp
theorem rem2 (b e N : Nat) : ((b : Int) + (e : Int)) % (N : Int) = (((b + e) % N : Nat) : Int) := by simp
end Go.Proofs.Ytnndlgdlligjbab
