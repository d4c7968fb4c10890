/- the order of digests -/
import Derived.Test.YtkadfmbpajbkiaaDoorHeld
import Derived.Test.YtkadfmbpajbkiaaDoorLives
import Derived.Test.YtkadfmbpajbkiaaDoorEql
import Derived.Test.YtkadfmbpajbkiaaDoorRefSum
import Derived.Lib.BytesEntry
namespace Go.Proofs.YtkadfmbpajbkiaaDoor
open Go.RowKit
open Sha
def lexI : List Int → List Int → Bool
  | [], [] => false
  | [], _ :: _ => true
  | _ :: _, [] => false
  | a :: x, b :: y => decide (a < b) || (decide (a = b) && lexI x y)
theorem lexI_asym : ∀ (x y : List Int), lexI x y = true → lexI y x = false
  | [], [], _ => rfl
  | [], _ :: _, _ => rfl
  | _ :: _, [], h => by simp [lexI] at h
  | a :: x, b :: y, h => by
    have ih := lexI_asym x y
    simp only [lexI, Bool.or_eq_true, decide_eq_true_eq, Bool.and_eq_true, Bool.or_eq_false_iff, decide_eq_false_iff_not, Bool.and_eq_false_iff] at h ⊢
    rcases h with h | ⟨rfl, h⟩
    · exact ⟨by omega, .inl (by omega)⟩
    · exact ⟨by omega, .inr (ih h)⟩
theorem lexI_total : ∀ (x y : List Int), x.length = y.length → lexI x y = false → lexI y x = !(x == y)
  | [], [], _, _ => rfl
  | [], _ :: _, h, _ => by simp at h
  | _ :: _, [], h, _ => by simp at h
  | a :: x, b :: y, hl, h => by
    have ih := lexI_total x y (by simpa using hl)
    simp only [lexI, Bool.or_eq_false_iff, decide_eq_false_iff_not, Bool.and_eq_false_iff] at h
    obtain ⟨h1, h2⟩ := h
    by_cases e : a = b
    · subst e
      rcases h2 with h2 | h2
      · exact absurd rfl h2
      · rw [lexI, ih h2]
        simp
    · have : b < a := by omega
      simp [lexI, this, e]
theorem lexI_ne (x y : List Int) (hl : x.length = y.length) (h : lexI x y = true) : (!(x == y)) = true := by
  by_cases e : x = y
  · subst e
    have := lexI_asym x x h
    rw [h] at this; cases this
  · simp [e]
theorem lexI_at : ∀ (k : Nat) (x y : List Int), x.take k = y.take k → k < x.length → k < y.length → x.getD k 0 ≠ y.getD k 0 → lexI x y = decide (x.getD k 0 < y.getD k 0)
  | 0, a :: x, b :: y, _, _, _, h => by
    simp only [List.getD_cons_zero] at h ⊢
    simp [lexI, h]
  | k + 1, a :: x, b :: y, ht, h1, h2, h => by
    simp only [List.take_succ_cons, List.cons.injEq] at ht
    obtain ⟨rfl, ht⟩ := ht
    simp only [List.getD_cons_succ] at h ⊢
    rw [lexI, lexI_at k x y ht (by simpa using h1) (by simpa using h2) h]
    simp
  | _, [], _, _, h1, _, _ => by simp at h1
  | _, _ :: _, [], _, _, h2, _ => by simp at h2
theorem lexI_self (x : List Int) : lexI x x = false := by
  induction x with
  | nil => rfl
  | cons a x ih => simp [lexI, ih]
theorem u8_lt (a b : Int) (ha : 0 ≤ a ∧ a < 256) (hb : 0 ≤ b ∧ b < 256) : (UInt8.ofNat a.toNat < UInt8.ofNat b.toNat) ↔ a < b := by
  rw [UInt8.lt_iff_toNat_lt, UInt8.toNat_ofNat', UInt8.toNat_ofNat']
  omega
theorem u8_eq (a b : Int) (ha : 0 ≤ a ∧ a < 256) (hb : 0 ≤ b ∧ b < 256) : (UInt8.ofNat a.toNat = UInt8.ofNat b.toNat) ↔ a = b := by
  rw [← UInt8.toNat_inj, UInt8.toNat_ofNat', UInt8.toNat_ofNat']
  omega
theorem cmp_lex : ∀ (x y : List Int), (∀ z ∈ x, 0 ≤ z ∧ z < 256) → (∀ z ∈ y, 0 ≤ z ∧ z < 256) → decide (Lib.compareBytes (Lib.bytesOf x) (Lib.bytesOf y) < 0) = lexI x y
  | [], [], _, _ => by decide
  | [], _ :: _, _, _ => by simp [Lib.bytesOf, Lib.compareBytes, lexI]
  | _ :: _, [], _, _ => by simp [Lib.bytesOf, Lib.compareBytes, lexI]
  | a :: x, b :: y, hx, hy => by
    have ih := cmp_lex x y (fun z hz => hx z (List.mem_cons_of_mem _ hz)) (fun z hz => hy z (List.mem_cons_of_mem _ hz))
    have ha := hx a (List.mem_cons_self ..)
    have hb := hy b (List.mem_cons_self ..)
    have e1 := u8_lt a b ha hb
    have e2 := u8_lt b a hb ha
    simp only [Lib.bytesOf, List.map_cons, Lib.compareBytes]
    by_cases h1 : a < b
    · rw [if_pos (e1.2 h1)]; simp [lexI, h1]
    · rw [if_neg (fun h => h1 (e1.1 h))]
      by_cases h2 : b < a
      · rw [if_pos (e2.2 h2)]
        have : ¬ a = b := by omega
        simp [lexI, h1, this]
      · rw [if_neg (fun h => h2 (e2.1 h))]
        have : a = b := by omega
        show decide (Lib.compareBytes (Lib.bytesOf x) (Lib.bytesOf y) < 0) = _
        rw [ih]
        simp [lexI, this]
theorem less_lex : ∀ (x y : List Int), (∀ z ∈ x, 0 ≤ z ∧ z < 256) → (∀ z ∈ y, 0 ≤ z ∧ z < 256) → Op.bytesLess (Lib.bytesOf x) (Lib.bytesOf y) = lexI x y
  | [], [], _, _ => by decide
  | [], _ :: _, _, _ => by simp [Lib.bytesOf, Op.bytesLess, lexI]
  | _ :: _, [], _, _ => by simp [Lib.bytesOf, Op.bytesLess, lexI]
  | a :: x, b :: y, hx, hy => by
    have ih := less_lex x y (fun z hz => hx z (List.mem_cons_of_mem _ hz)) (fun z hz => hy z (List.mem_cons_of_mem _ hz))
    have ha := hx a (List.mem_cons_self ..)
    have hb := hy b (List.mem_cons_self ..)
    have e1 := u8_lt a b ha hb
    have e2 := u8_eq a b ha hb
    simp only [Lib.bytesOf, List.map_cons, Op.bytesLess] at ih ⊢
    rw [ih, lexI]
    congr 1
    · simp only [e1]
    · congr 1
      by_cases h : a = b
      · subst h; simp
      · have : ¬ UInt8.ofNat a.toNat = UInt8.ofNat b.toNat := fun q => h (e2.1 q)
        simp [h, this]
theorem str_list (xs : List Int) : (strOf xs).data.toList = Lib.bytesOf xs := by
  have gen : ∀ (xs : List Int) (r : ByteArray), (xs.foldl (fun r n => r.push (UInt8.ofNat n.toNat)) r).data.toList = r.data.toList ++ Lib.bytesOf xs := by
    intro xs
    induction xs with
    | nil => intro r; simp [Lib.bytesOf]
    | cons a x ih => intro r; rw [List.foldl_cons, ih]; simp [ByteArray.push, Lib.bytesOf]
  unfold strOf
  rw [gen]
  simp
theorem dg_lt : ∀ p q : Fin 16, (dg.getD p.val 0 < dg.getD q.val 0 ↔ p.val < q.val) ∧ (dg.getD p.val 0 = dg.getD q.val 0 ↔ p.val = q.val) ∧ 0 ≤ dg.getD p.val 0 ∧ dg.getD p.val 0 < 256 := by decide
theorem hex_ok (x : List Int) (hx : ∀ z ∈ x, 0 ≤ z ∧ z < 256) : ∀ z ∈ hex x, 0 ≤ z ∧ z < 256 := by
  intro z hz
  unfold hex at hz
  obtain ⟨a, ha, hz⟩ := List.mem_flatMap.1 hz
  have := hx a ha
  have h1 := (dg_lt ⟨(a / 16).toNat, by omega⟩ 0).2.2
  have h2 := (dg_lt ⟨(a % 16).toNat, by omega⟩ 0).2.2
  simp only [hex2, List.mem_cons, List.not_mem_nil, or_false] at hz
  rcases hz with rfl | rfl
  · exact h1
  · exact h2
theorem hex_lex : ∀ (x y : List Int), (∀ z ∈ x, 0 ≤ z ∧ z < 256) → (∀ z ∈ y, 0 ≤ z ∧ z < 256) → lexI (hex x) (hex y) = lexI x y
  | [], [], _, _ => rfl
  | [], _ :: _, _, _ => by simp [hex, hex2, lexI]
  | _ :: _, [], _, _ => by simp [hex, hex2, lexI]
  | a :: x, b :: y, hx, hy => by
    have ih := hex_lex x y (fun z hz => hx z (List.mem_cons_of_mem _ hz)) (fun z hz => hy z (List.mem_cons_of_mem _ hz))
    have ha := hx a (List.mem_cons_self ..)
    have hb := hy b (List.mem_cons_self ..)
    have h1 := dg_lt ⟨(a / 16).toNat, by omega⟩ ⟨(b / 16).toNat, by omega⟩
    have h2 := dg_lt ⟨(a % 16).toNat, by omega⟩ ⟨(b % 16).toNat, by omega⟩
    have ex : ∀ (c : Int) (z : List Int), hex (c :: z) = dg.getD (c / 16).toNat 0 :: dg.getD (c % 16).toNat 0 :: hex z := by intro c z; simp [hex, hex2]
    rw [ex, ex]
    generalize dg.getD (a / 16).toNat 0 = a1 at *
    generalize dg.getD (a % 16).toNat 0 = a2 at *
    generalize dg.getD (b / 16).toNat 0 = b1 at *
    generalize dg.getD (b % 16).toNat 0 = b2 at *
    have k1 : a1 < b1 ↔ (a / 16) < (b / 16) := by rw [h1.1]; show (a / 16).toNat < (b / 16).toNat ↔ _; omega
    have k2 : a1 = b1 ↔ (a / 16) = (b / 16) := by rw [h1.2.1]; show (a / 16).toNat = (b / 16).toNat ↔ _; omega
    have k3 : a2 < b2 ↔ (a % 16) < (b % 16) := by rw [h2.1]; show (a % 16).toNat < (b % 16).toNat ↔ _; omega
    have k4 : a2 = b2 ↔ (a % 16) = (b % 16) := by rw [h2.2.1]; show (a % 16).toNat = (b % 16).toNat ↔ _; omega
    rw [lexI, lexI, lexI, ih]
    clear h1 h2 ih ex
    by_cases e : a = b
    · subst e
      have : a1 = b1 := k2.2 rfl
      have : a2 = b2 := k4.2 rfl
      subst a1 a2
      simp
    · by_cases l : a < b
      · simp only [l, decide_true, Bool.true_or]
        by_cases q : a1 = b1
        · have := k2.1 q
          have : a2 < b2 := k3.2 (by omega)
          simp [q, this]
        · have : ¬ a / 16 = b / 16 := fun c => q (k2.2 c)
          have : a1 < b1 := k1.2 (by omega)
          simp [this]
      · have n1 : ¬ a1 < b1 := fun c => by have := k1.1 c; omega
        simp only [n1, l, e, decide_false, Bool.false_or, Bool.false_and]
        by_cases q : a1 = b1
        · have := k2.1 q
          have n3 : ¬ a2 < b2 := fun c => by have := k3.1 c; omega
          have n4 : ¬ a2 = b2 := fun c => by have := k4.1 c; omega
          simp [n3, n4]
        · simp [q]
theorem text_lex (x y : List Int) (hx : ∀ z ∈ x, 0 ≤ z ∧ z < 256) (hy : ∀ z ∈ y, 0 ≤ z ∧ z < 256) : Op.bytesLess (strOf (hex x)).toList (strOf (hex y)).toList = lexI x y := by
  rw [Lib.toList_data, Lib.toList_data, str_list, str_list, less_lex _ _ (hex_ok x hx) (hex_ok y hy), hex_lex x y hx hy]
end Go.Proofs.YtkadfmbpajbkiaaDoor
