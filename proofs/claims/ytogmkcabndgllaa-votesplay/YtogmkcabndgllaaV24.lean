/- the document's book: New, at -/
import Derived.Test.YtogmkcabndgllaaV22
namespace Go.Proofs.Ytogmkcabndgllaa
open Go.RowKit
/-- the document's book -/
structure XAt (w : World) (X : Nat) (a : Option Addr) (cap : Nat) (N : Int) (st : List On) : Prop where
  lt : X < w.heap.size
  c0 : w.cell? ⟨X, 0, none⟩ = some (.int .i64 N)
  c1 : w.cell? ⟨X, 1, none⟩ = some (.slice a st.length cap)
  row : RowOf On.cells w a st
  le : st.length ≤ cap
  ne : ∀ x, a = some x → x.block ≠ X
  th : w.there X 0 2
  bk : Bk N st
theorem XAt.at {w w' : World} {X : Nat} {a : Option Addr} {cap : Nat} {N : Int} {st : List On} (h : XAt w X a cap N st) (hs : w.heap.size ≤ w'.heap.size) (h1 : w'.heap[X]? = w.heap[X]?) (h2 : ∀ x, a = some x → w'.heap[x.block]? = w.heap[x.block]?) : XAt w' X a cap N st := by
  refine ⟨Nat.lt_of_lt_of_le h.lt hs, ?_, ?_, ?_, h.le, h.ne, fun j hj => ?_, h.bk⟩
  · rw [← h.c0]; simp [World.cell?, h1]
  · rw [← h.c1]; simp [World.cell?, h1]
  · rcases h.row with q | ⟨b, off, rfl, q1, q2⟩
    · exact .inl q
    · exact .inr ⟨b, off, rfl, Nat.lt_of_lt_of_le q1 hs, range_at q2 (h2 _ rfl)⟩
  · have := h.th j hj
    simpa [World.cell?, World.frozen?, h1] using this
theorem XAt.below {w w' : World} {X : Nat} {a : Option Addr} {cap : Nat} {N : Int} {st : List On} (h : XAt w X a cap N st) (hb : Below w.heap.size w w') : XAt w' X a cap N st := by
  refine ⟨Nat.lt_of_lt_of_le h.lt hb.size, ?_, ?_, h.row.below hb, h.le, h.ne, there_below h.th hb h.lt, h.bk⟩
  · exact (hb.cell (p := ⟨X, 0, none⟩) h.lt).trans h.c0
  · exact (hb.cell (p := ⟨X, 1, none⟩) h.lt).trans h.c1
def idxL (st : List On) (k n : Int) : Option Nat := st.findIdx? (fun x => decide (x.v.k = k ∧ x.n = n))
theorem idx_none {st : List On} {k n : Int} (h : idxL st k n = none) : find st k n = none := by
  unfold idxL at h
  unfold find
  rw [List.findIdx?_eq_none_iff] at h
  exact List.find?_eq_none.2 (fun x hx => by have := h x hx; simpa using this)
theorem idx_some {st : List On} {k n : Int} {i : Nat} (h : idxL st k n = some i) : ∃ hi : i < st.length, find st k n = some st[i] := by
  unfold idxL at h
  obtain ⟨hi, hp, hlt⟩ := List.findIdx?_eq_some_iff_getElem.1 h
  refine ⟨hi, ?_⟩
  unfold find
  rw [List.find?_eq_some_iff_getElem]
  exact ⟨hp, i, hi, rfl, fun j hj => by have h2 := hlt j hj; simp only [decide_eq_true_eq] at h2; simp only [Bool.not_eq_true', decide_eq_false_iff_not]; exact h2⟩
theorem idx_at {st : List On} {k n : Int} {i : Nat} (hi : i < st.length) (hp : st[i].v.k = k ∧ st[i].n = n) (hlt : ∀ j (hj : j < i), ¬ (st[j].v.k = k ∧ st[j].n = n)) : idxL st k n = some i := by
  unfold idxL
  rw [List.findIdx?_eq_some_iff_getElem]
  exact ⟨hi, by simpa using hp, fun j hj => by have := hlt j hj; simpa using this⟩
theorem idx_no {st : List On} {k n : Int} (hlt : ∀ j (hj : j < st.length), ¬ (st[j].v.k = k ∧ st[j].n = n)) : idxL st k n = none := by
  unfold idxL
  rw [List.findIdx?_eq_none_iff]
  intro x hx
  obtain ⟨j, hj, rfl⟩ := List.mem_iff_getElem.1 hx
  have := hlt j hj
  simpa using this
def idxV : Option Nat → Int
  | none => -1
  | some i => i
set_option maxHeartbeats 400000 in
theorem xnew_no (n : Int) (w : World) (h : goodB n = false) : Calls Try.prog 8 #[.int .i64 n] w fun e w' => e = .returned (.pointer none) ∧ w' = w := by
  have cg := refGood_any n w
  rw [h] at cg
  clear h
  go_enter Try.func8, Try.ntmps8
  go_wp2_with fail
  refine cg.mono ?_
  rintro _ wx ⟨rfl, hx⟩
  obtain rfl := hx.symm
  clear hx
  go_wp2_with fail
  go_ret
  exact ⟨rfl, rfl⟩
set_option maxHeartbeats 400000 in
theorem xnew_yes (n : Int) (w : World) (h : goodB n = true) : Calls Try.prog 8 #[.int .i64 n] w fun e w' => ∃ X, e = .returned (.pointer (some ⟨X, 0, none⟩)) ∧ XAt w' X none 0 n [] ∧ w.heap.size ≤ X ∧ Below w.heap.size w w' := by
  have cg := refGood_any n w
  rw [h] at cg
  have hg := goodB_true h
  clear h
  go_enter Try.func8, Try.ntmps8
  go_wp2_with fail
  refine cg.mono ?_
  rintro _ wx ⟨rfl, hx⟩
  obtain rfl := hx.symm
  clear hx
  go_wp2_with fail
  go_ret
  have hr := range_new w #[.int .i64 n, .slice none 0 0] 61
  have ht := there_new w #[.int .i64 n, .slice none 0 0] 61
  exact ⟨w.heap.size, rfl, ⟨by simp, hr 0 _ rfl, hr 1 _ rfl, .inl rfl, Nat.le_refl _, fun x hx => by (cases hx), ht, ⟨⟨hg.1, hg.2.1⟩, by simp, by simp, by simp, List.Pairwise.nil⟩⟩, Nat.le_refl _, (Below.refl _ _).alloc (Nat.le_refl _) _⟩
set_option maxRecDepth 100000 in
set_option maxHeartbeats 4000000 in
theorem xat_any (X : Nat) (a : Option Addr) (cap : Nat) (N : Int) (st : List On) (k n : Int) (w : World) (h : XAt w X a cap N st) (hlen : st.length < 1000000) :
    Calls Try.prog 24 #[.pointer (some ⟨X, 0, none⟩), .int .i64 k, .int .i64 n] w fun e w' => e = .returned (.int .i64 (idxV (idxL st k n))) ∧ Below w.heap.size w w' := by
  go_enter Try.func24, Try.ntmps24
  go_wp2_with fail
  go_loopw [7] (fun iv wr => ∃ i : Nat, i ≤ st.length ∧ iv = .int .i64 (i : Int) ∧ Hid (∀ j (hj : j < i) (hl : j < st.length), ¬ (st[j].v.k = k ∧ st[j].n = n)) ∧ Hid (Below w.heap.size w wr)) (fun iv _ => st.length - (intOf iv).toNat)
  case atStart => exact ⟨0, by omega, rfl, hide (fun j hj => by omega), hide (Below.refl _ _)⟩
  case round =>
    obtain ⟨i, hi, rfl, HN, HB⟩ := hrel
    have hB := HB.out
    clear HB
    have h1 := h.below hB
    have c1 := h1.c1
    by_cases hlt : i < st.length
    · have hiI : (i : Int) < (st.length : Int) := by omega
      have hle := h.le
      obtain ⟨b, off, rfl, hbl, hr⟩ := h1.row.elem (fun y hy => (h.bk.ok y hy).len) i hlt
      obtain ⟨q1, q2, q3⟩ := On.parts (h.bk.ok _ (List.getElem_mem hlt)) hr
      have r1 := q2 0 _ rfl
      have HX : Hid (∀ (hp : st[i].v.k = k ∧ st[i].n = n), idxL st k n = some i) := hide (fun hp => idx_at hlt hp (fun j hj => HN.out j hj (by omega)))
      have HN2 : Hid (¬ (st[i].v.k = k ∧ st[i].n = n) → ∀ j (hj : j < i + 1) (hl : j < st.length), ¬ (st[j].v.k = k ∧ st[j].n = n)) := hide (fun hnp j hj hl => by
        by_cases e : j = i
        · subst e; exact hnp
        · exact HN.out j (by omega) hl)
      generalize st[i].v.k = xk at *
      generalize st[i].n = xn at *
      clear q2 q3 hr HN h1
      by_cases hn : xn = n
      · have hne : (xn == n) = true := by simpa using hn
        by_cases hkk : xk = k
        · have hke : (xk == k) = true := by simpa using hkk
          have HR := hide (HX.out ⟨hkk, hn⟩)
          clear HX HN2 hn hkk
          go_wp2_with fail
          go_ret
          exact ⟨by rw [HR.out]; rfl, hB⟩
        · have hke : (xk == k) = false := by simpa using hkk
          have HR := hide (HN2.out (fun q => hkk q.1))
          have HB := hide hB
          clear HX HN2 hn hkk hB
          go_wp2_with fail
          go_roundw
          case rel => exact ⟨i + 1, by omega, by go_num, HR, HB⟩
          case measure => simp [intOf]; omega
      · have hne : (xn == n) = false := by simpa using hn
        have HR := hide (HN2.out (fun q => hn q.2))
        have HB := hide hB
        clear HX HN2 hn hB
        go_wp2_with fail
        go_roundw
        case rel => exact ⟨i + 1, by omega, by go_num, HR, HB⟩
        case measure => simp [intOf]; omega
    · obtain rfl : i = st.length := by omega
      have HR := hide (idx_no (fun j hj => HN.out j hj hj))
      clear HN
      go_wp2_with fail
      go_ret
      exact ⟨by rw [HR.out]; rfl, hB⟩
end Go.Proofs.Ytogmkcabndgllaa
