/- a map's entry that is taken and stored into -/
import Derived.Test.YtogmkcabndgllaaV9
namespace Go.Proofs.Ytogmkcabndgllaa
open Go.RowKit
open Go.ChangeMaps Go.MapKept Go.WideElems
theorem entry_two {H : Type} {P : Program} {w : World} {t k e : TypeId} {R : Value → Option (DataW H × List MemPlace)} {b : Nat} {es : Array MapEntry} {clock : Nat} (K : Maps.Keyed P k) (ht : P.underlying t = some (.map k e)) {z : Value} (hz : ∀ u : World, (zeroValue e).run P u = .ok z u) (hb : w.heap[b]? = some (.map es clock)) (F : Fit P k R es clock)
    {key : Value} {kl : Lit} (hkey : keyOf P k key = some kl) :
    (∃ v0 s0 w1, (Instr.mapEntry t (.map (some b)) key).run P w = .ok (.tuple #[v0, s0]) w1 ∧ w1.heap[b]? = some (.map es clock)) ∨
    ((∀ x ∈ es.toList, x.key ≠ key) ∧ ∃ s0 w1, (Instr.mapEntry t (.map (some b)) key).run P w = .ok (.tuple #[z, s0]) w1 ∧ (Instr.mapUpdate t (.map (some b)) key z).run P w = .ok () w1) := by
  rcases K.find w hkey es.toList F.keys with ⟨h1, h2⟩ | ⟨j, e0, h1, h2, h3⟩
  · right
    refine ⟨h2, goInt clock, setBlock w b (.map (es.push ⟨key, z, clock⟩) (clock + 1)), ?_, ?_⟩
    · simp [Instr.mapEntry, run_underlying ht, MapKept.run_getObj_map hb, K.check w false hkey, h1, hz, MapKept.run_setObj_map _ hb, Result.andThen, setBlock]
    · simp [Instr.mapUpdate, run_underlying ht, MapKept.run_getObj_map hb, K.check w false hkey, h1, MapKept.run_setObj_map _ hb, Result.andThen, setBlock]
  · left
    have hj : es[j]? = some e0 := by simpa using h2
    have hsame : es.modify j (fun e => { e with key := key }) = es := by
      apply Array.ext'
      rw [Array.toList_modify, modify_eq_set _ _ _ _ h2]
      have : ({ e0 with key := key } : MapEntry) = e0 := by rw [← h3]
      rw [this]
      exact set_self _ _ _ h2
    refine ⟨e0.val, goInt e0.born, setBlock w b (.map es clock), ?_, heap_setBlock_same hb _⟩
    simp [Instr.mapEntry, run_underlying ht, MapKept.run_getObj_map hb, K.check w false hkey, h1, hj, h3, K.stays w hkey, hsame, MapKept.run_setObj_map _ hb, Result.andThen, setBlock]
theorem ok_world {α : Type} {a b : α} {w w' : World} (h : Result.ok a w = Result.ok b w') : w = w' := by injection h
theorem set_set (w : World) (b : Nat) (o o' : Obj) : setBlock (setBlock w b o) b o' = setBlock w b o' := by
  unfold setBlock
  simp
theorem MapC.entry {w : World} {M n : Nat} {st : List On} {p : On → Bool} (h : MapC w M n st p) (hn : n < 1000000) (v : Vt) (hv : v.ok) :
    ∃ v0 s0 w1, (Instr.mapEntry 68 (.map (some M)) (.agg v.cells.toArray)).run Try.prog w = .ok (.tuple #[v0, s0]) w1 ∧ (Instr.lookup 68 (.map (some M)) (.agg v.cells.toArray) false).run Try.prog w1 = .ok (.int .i64 (cntP st p v)) w1 ∧ w.grownBy w1 (some M) ∧
      ∀ val w3, (Instr.mapUpdate 68 (.map (some M)) (.agg v.cells.toArray) val).run Try.prog w = .ok () w3 → (Instr.entryStore 68 (.map (some M)) s0 val).run Try.prog w1 = .ok () w3 := by
  have hkey := key_vote v hv
  obtain ⟨D, ⟨es, clock, hb, F, hs, hD⟩, hat, hhas⟩ := id h
  obtain ⟨v0, s0, es1, clock1, hrun, -, hstore⟩ := entry_then_store klawV Try.underlying68 zeroI hb F hkey
  have hbb : (setBlock w M (.map es1 clock1)).heap[M]? = some (.map es1 clock1) := heap_setBlock_same hb _
  refine ⟨v0, goInt s0, _, hrun, ?_, ⟨rfl, rfl, rfl, by simp [setBlock], fun i _ hi => heap_setBlock_other hb _ (fun e => hi (by rw [e]))⟩, fun val w3 hw3 => ?_⟩
  · rcases entry_two lawV Try.underlying68 zeroI hb F hkey with ⟨v1, s1, w1, h1, h2⟩ | ⟨hno, s1, w1, h1, h2⟩
    · have h1 := ok_world (hrun.symm.trans h1)
      rw [h1]
      exact (h.at (h2.trans hb.symm)).look v hv
    · have h1 := ok_world (hrun.symm.trans h1)
      rw [h1]
      have hown : w.ownsMap Try.prog 31 (plainElem Try.prog 3) M n D := ⟨es, clock, hb, F, hs, hD⟩
      obtain ⟨w', hr', hown', -⟩ := hown.store lawV Try.underlying68 (by unfold maxLen; omega) hkey (plainElem_int Try.underlying3 (a := 0) (by decide))
      have hr' := ok_world (h2.symm.trans hr')
      rw [← hr'] at hown'
      obtain ⟨c, hl, hc, _⟩ := hown'.lookup_int lawV Try.underlying68 Try.underlying3 (zeroI _) hkey
      rw [Maps.atKey_put_same hown.isMap (lawV.key hkey)] at hc
      simp only [DataW.lit.injEq, Lit.int.injEq, true_and] at hc
      have hz : cntP st p v = 0 := by
        have h4 := hat v hv
        rcases Maps.fit_look false lawV Try.underlying68 (zeroI w) hb F hkey with ⟨_, _, h5⟩ | ⟨e0, y, he0, hk0, _⟩
        · rw [hD, h5] at h4
          simp only [DataW.lit.injEq, Lit.int.injEq, true_and] at h4
          omega
        · exact absurd hk0 (hno e0 he0)
      rw [hl, ← hc, hz]
      rfl
  · obtain ⟨es', clock', h1, h2⟩ := hstore (setBlock w M (.map es1 clock1)) val hbb
    have hw3 := ok_world (h2.symm.trans hw3)
    rw [h1, ← hw3, set_set]
end Go.Proofs.Ytogmkcabndgllaa
