/- Bytes of the call's own: what append makes of them, and that the contracts may read them. -/
import Derived.Test.YtiihfjoikoogfabRefs
import Derived.Test.YtiihfjoikoogfabAppend
namespace Go.Proofs.Ytiihfjoikoogfab
open Go.RowKit
open Crc
theorem info5 : (Try.prog.info? 5).map (fun i => (i.zero, i.size, i.bytes)) = some (some (.int .u8 0), 1, 1) := by kernel_rfl

theorem RowAt.cellsAt {w : World} {x : Addr} {zs : List Int} (h : RowAt w (some x) zs) : ∀ j u, (zs.map (Value.int .u8))[j]? = some u → w.cell? (x.add j) = some u := by
  intro j u hu
  obtain ⟨h1, h2, rfl | ⟨b, off, hx, hb, hc⟩⟩ := h
  · simp at hu
  · simp only [Option.some.injEq] at hx
    subst hx
    rw [List.getElem?_map] at hu
    cases hz : zs[j]? with
    | none => simp [hz] at hu
    | some z =>
      simp [hz] at hu
      subst hu
      have hj : j < zs.length := by
        rcases Nat.lt_or_ge j zs.length with h | h
        · exact h
        · rw [List.getElem?_eq_none h] at hz; cases hz
      have := hc j hj
      rw [List.getD_eq_getElem?_getD, hz] at this
      by_cases h0 : j = 0
      · subst h0; simpa [Addr.add] using this
      · simpa [Addr.add, h0] using this
theorem RowAt.none_nil {w : World} {zs : List Int} (h : RowAt w none zs) : zs = [] := by
  obtain ⟨h1, h2, h | ⟨b, off, hx, hb, hc⟩⟩ := h
  · exact h
  · cases hx
theorem RowAt.src {w : World} {a : Option Addr} {zs : List Int} (h : RowAt w a zs) (cap : Nat) : Src Try.prog 1 22 (.slice a zs.length cap) zs.length (zs.map (Value.int .u8)) w := by
  cases a with
  | none => obtain rfl := h.none_nil; exact Src.ofNil w Try.underlying22 cap
  | some x =>
    refine Src.ofSlice w Try.underlying22 x zs.length cap _ (by simp) h.cellsAt (fun u hu => ?_)
    obtain ⟨z, _, rfl⟩ := List.mem_map.1 hu
    rfl
/-- bytes as a string -/
def strOf (zs : List Int) : ByteArray := zs.foldl (fun r n => r.push (UInt8.ofNat n.toNat)) ByteArray.empty
theorem RowAt.str {w : World} {a : Option Addr} {zs : List Int} (h : RowAt w a zs) (cap : Nat) : (convert 22 9 (.slice a zs.length cap)).run Try.prog w = .ok (.string (strOf zs)) w := by
  rw [run_convert_bytes_string w 22 9 5 a zs.length cap Try.underlying22 Try.underlying5 Try.underlying9]
  cases a with
  | none => obtain rfl := h.none_nil; rfl
  | some x =>
    have := run_loadCells_list (P := Try.prog) w x (zs.map (Value.int .u8)) h.cellsAt
    rw [List.length_map] at this
    exact run_bytesToString w x zs.length cap zs this

theorem own_rowAt {w : World} {base : Nat} {v : Value} {zs : List Int} (h : w.ownsRow base 5 1 v zs.length (zs.map (Value.int .u8))) (hz : ∀ z ∈ zs, 0 ≤ z ∧ z < 256) (hm : zs.length ≤ maxLen) :
    ∃ a cap, v = .slice a zs.length cap ∧ zs.length ≤ cap ∧ cap ≤ maxLen ∧ RowAt w a zs := by
  rcases h.2 with ⟨rfl, h0⟩ | ⟨g, cap, cur, rfl, hb, hg, hn, hcm, hcs, ht⟩
  · have : zs = [] := List.eq_nil_of_length_eq_zero h0
    subst this
    exact ⟨none, 0, rfl, by simp, by unfold maxLen; omega, hm, hz, Or.inl rfl⟩
  · refine ⟨_, cap, rfl, hn, hcm, hm, hz, Or.inr ⟨g, 0, rfl, (Array.getElem?_eq_some_iff.1 hg).1, fun j hj => ?_⟩⟩
    have := h.cells (g := g) rfl j (.int .u8 (zs.getD j 0)) (by rw [List.getElem?_map, List.getElem?_eq_getElem hj, List.getD_eq_getElem?_getD, List.getElem?_eq_getElem hj]; rfl)
    by_cases h0 : j = 0
    · subst h0; simpa [Addr.add] using this
    · simpa [Addr.add, h0] using this
end Go.Proofs.Ytiihfjoikoogfab
