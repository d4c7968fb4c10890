/- Add, whatever comes -/
import Derived.Test.YtogmkcabndgllaaV7
namespace Go.Proofs.Ytogmkcabndgllaa
open Go.RowKit
theorem add_any (B b : Nat) (N : Int) (st : List On) (x : On) (hx : x.ok) (w : World) (h : BookAt w B b N st) (hlen : st.length < 1000000) :
    Calls Try.prog 10 #[.pointer (some ⟨B, 0, none⟩), .int .i64 x.n, .agg x.v.cells.toArray, .agg (v8 x.t).toArray] w fun e w' => e = .returned (.int .i64 (addE N st x)) ∧ BookAt w' B b N (addL N st x) ∧ Off (fun z => z = b) w w' := by
  have stay : ∀ {er : Int} {w' : World}, Below w.heap.size w w' → BookAt w' B b N st ∧ Off (fun z => z = b) w w' := fun hb => ⟨h.below hb, Off.of_below hb⟩
  have same : ∀ {er : Int}, addE N st x = er → er ≠ 0 → addL N st x = st := fun he hn => by unfold addL; rw [if_pos (by rw [he]; exact hn)]
  by_cases h1 : x.n < 0
  · have he : addE N st x = 2 := by unfold addE; rw [if_pos (.inl h1)]
    rw [he, same he (by decide)]
    exact (add_a B b N st x hx w h h1).mono (fun e w' ⟨q1, q2⟩ => ⟨q1, stay (er := 0) q2⟩)
  · by_cases h2 : N ≤ x.n
    · have he : addE N st x = 2 := by unfold addE; rw [if_pos (.inr h2)]
      rw [he, same he (by decide)]
      exact (add_b B b N st x hx w h (by omega) h2).mono (fun e w' ⟨q1, q2⟩ => ⟨q1, stay (er := 0) q2⟩)
    · by_cases h3 : x.v.k ≠ 1 ∧ x.v.k ≠ 2
      · have he : addE N st x = 2 := by unfold addE; rw [if_neg (by omega), if_pos h3]
        rw [he, same he (by decide)]
        exact (add_c B b N st x hx w h (by omega) (by omega) (by simpa using h3.1) (by simpa using h3.2)).mono (fun e w' ⟨q1, q2⟩ => ⟨q1, stay (er := 0) q2⟩)
      · have hk : x.v.k = 1 ∨ x.v.k = 2 := by omega
        have he0 : addE N st x = (match find st x.v.k x.n with | none => 0 | some y => if y.v = x.v then 0 else if y.v.v = x.v.v then 181 else if x.v.v < y.v.v then 90 else 0) := by
          unfold addE; rw [if_neg (by omega), if_neg h3]; rfl
        cases hf : find st x.v.k x.n with
        | none =>
          rw [hf] at he0
          simp only at he0
          have hl : addL N st x = putL st x := by unfold addL; rw [if_neg (by simp [he0]), hf]
          rw [he0, hl]
          exact add_d B b N st x hx w h (by omega) (by omega) hk hlen hf
        | some y =>
          rw [hf] at he0
          simp only at he0
          by_cases e1 : y.v = x.v
          · rw [if_pos e1] at he0
            have hl : addL N st x = st := by unfold addL; rw [if_neg (by simp [he0]), hf]; simp [e1]
            rw [he0, hl]
            exact (add_e B b N st x hx w h (by omega) (by omega) hk y hf e1).mono (fun e w' ⟨q1, q2⟩ => ⟨q1, stay (er := 0) q2⟩)
          · rw [if_neg e1] at he0
            by_cases e2 : y.v.v = x.v.v
            · rw [if_pos e2] at he0
              rw [he0, same he0 (by decide)]
              exact (add_f B b N st x hx w h (by omega) (by omega) hk y hf e1 e2).mono (fun e w' ⟨q1, q2⟩ => ⟨q1, stay (er := 0) q2⟩)
            · rw [if_neg e2] at he0
              by_cases e3 : x.v.v < y.v.v
              · rw [if_pos e3] at he0
                rw [he0, same he0 (by decide)]
                exact (add_g B b N st x hx w h (by omega) (by omega) hk y hf e1 e3).mono (fun e w' ⟨q1, q2⟩ => ⟨q1, stay (er := 0) q2⟩)
              · rw [if_neg e3] at he0
                have hl : addL N st x = putL st x := by unfold addL; rw [if_neg (by simp [he0]), hf]; simp [e1]
                rw [he0, hl]
                exact add_h B b N st x hx w h (by omega) (by omega) hk hlen y hf e1 (by omega)
end Go.Proofs.Ytogmkcabndgllaa
