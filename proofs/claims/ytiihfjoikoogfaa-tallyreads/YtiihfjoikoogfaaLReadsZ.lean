/- For every list of bytes and every list of acts, raddlelaw01.TallyReads returns true: whatever a reader is asked, it tells what the document says, and keeps its first error. Conditions: none beyond the row's own. -/
import Derived.Test.YtiihfjoikoogfaaReadsZ
import Derived.Test.YtiihfjoikoogfaaRows
import Derived.WalkKit
import Derived.ProofKit
import Derived.OpenShut
import Derived.ShutString
import Derived.ChangeOld
import Derived.Below
namespace Go.Proofs.Ytiihfjoikoogfaa.tallyReads
open Go.ChangeShapes Go.WideShapes Go.ChangeAt Go.RowKit
open Go.ChangeMaps (open_string shut_string)
set_option linter.unusedVariables false
theorem some_at {α : Type} {xs : List α} {n i : Nat} (hl : xs.length = n) (hi : i < n) : ∃ y, xs[i]? = some y := ⟨xs[i]'(by omega), List.getElem?_eq_getElem (by omega)⟩
theorem drop_one {α : Type} {l : List α} {o : Nat} {v : α} (h : (l.drop o).take 1 = [v]) : l[o]? = some v := by
  have := congrArg (·[0]?) h
  simpa [List.getElem?_take, List.getElem?_drop] using this
def numAt (v : Option Value) : Int := match v with | some (.int _ z) => z | _ => 0
section
variable {H : Type} {enc : TypeId × Value → H} {W : World} {b : Nat} {sp : Nat → Bool} {held : Bool} {m : Nat}
theorem int_at {l : List Value} {o : Nat} {y : DataW H × List MemPlace} (h : DataW.trod enc Try.prog W b sp held m 3 ((l.drop o).take 1) = some y) : ∃ z, l[o]? = some (.int .i64 z) := by
  obtain ⟨z, hc, rfl, hw⟩ := DataW.trod_int Try.underlying3 h
  exact ⟨z, drop_one hc⟩
set_option maxRecDepth 100000 in
theorem act_at {ad : Addr} {y : DataW H × List MemPlace} (h : (W.cells? b ad 2).bind (DataW.trod enc Try.prog W b sp held m 34) = some y) : ∃ K N, W.cell? (ad.add 0) = some (.int .i64 K) ∧ W.cell? (ad.add 1) = some (.int .i64 N) := by
  obtain ⟨cs, hcells, htr⟩ := Option.bind_eq_some_iff.1 h
  obtain ⟨_, hl2, hcell⟩ := World.cells?_some hcells
  obtain ⟨xs, m', _, rfl, _, hl, hf⟩ := DataW.trod_struct Try.underlying34 htr
  have hci : Try.prog.cellsOf 3 = 1 := by kernel_rfl
  have hl : xs.length = 2 := hl
  have h0 : DataW.trod enc Try.prog W b sp held m' 3 ((cs.drop 0).take (Try.prog.cellsOf 3)) = xs[0]? := hf 0 _ rfl
  have h1 : DataW.trod enc Try.prog W b sp held m' 3 ((cs.drop 1).take (Try.prog.cellsOf 3)) = xs[1]? := hf 1 _ rfl
  rw [hci] at h0 h1
  obtain ⟨y0, e0⟩ := some_at hl (show 0 < 2 by omega)
  obtain ⟨y1, e1⟩ := some_at hl (show 1 < 2 by omega)
  obtain ⟨K, g0⟩ := int_at (h0.trans e0)
  obtain ⟨N, g1⟩ := int_at (h1.trans e1)
  exact ⟨K, N, (hcell 0 (by omega)).trans g0, (hcell 1 (by omega)).trans g1⟩
set_option maxRecDepth 100000 in
theorem open_acts {a : Option Addr} {len cap : Nat} {y : DataW H × List MemPlace} (h : DataW.trod enc Try.prog W b sp held m 28 [.slice a len cap] = some y) : ∃ ax : List (Int × Int), len = ax.length ∧ ActsAt W a ax := by
  rcases DataW.trod_slice Try.underlying28 h with ⟨hcs, _⟩ | ⟨ad, l, c, elems, rest, m', _, hcs, _, hb, hl, hm, hlen, hel, _, _⟩
  · simp at hcs
    obtain ⟨rfl, rfl, rfl⟩ := hcs
    exact ⟨[], rfl, .inl rfl⟩
  · simp at hcs
    obtain ⟨rfl, rfl, rfl⟩ := hcs
    have hc2 : Try.prog.cellsOf 34 = 2 := by kernel_rfl
    have key : ∀ i, i < len → ∃ K N, W.cell? ((ad.add (i * 2)).add 0) = some (.int .i64 K) ∧ W.cell? ((ad.add (i * 2)).add 1) = some (.int .i64 N) := by
      intro i hi
      obtain ⟨y, hy⟩ := some_at hlen hi
      have := (hel i hi).trans hy
      rw [hc2] at this
      exact act_at this
    refine ⟨(List.range len).map fun i => (numAt (W.cell? ((ad.add (i * 2)).add 0)), numAt (W.cell? ((ad.add (i * 2)).add 1))), by simp, ?_⟩
    by_cases h0 : len = 0
    · left; subst h0; rfl
    · right
      obtain ⟨blk, off, spot⟩ := ad
      obtain ⟨K0, N0, c0, _⟩ := key 0 (by omega)
      have hspot : spot = none := by simpa [Addr.add] using World.cell?_spot c0
      subst hspot
      refine ⟨blk, off, rfl, ?_, fun j hj => ?_⟩
      · have := block_lt c0; simpa [Addr.add] using this
      · have hj' : j < len := by simpa using hj
        obtain ⟨K, N, c1, c2⟩ := key j hj'
        simp only [List.getElem_map, List.getElem_range]
        rw [c1, c2]
        have e0 : ((⟨blk, off, none⟩ : Addr).add (j * 2)).add 0 = ⟨blk, off + j * 2, none⟩ := by rw [Addr.add_mid, Addr.add_mid]; rfl
        have e1 : ((⟨blk, off, none⟩ : Addr).add (j * 2)).add 1 = ⟨blk, off + j * 2 + 1, none⟩ := by rw [Addr.add_mid, Addr.add_mid]
        rw [e0] at c1
        rw [e1] at c2
        exact ⟨c1, c2⟩
end
theorem walk (a0 : Option Addr) (len0 cap0 : Nat) (z0 : List Int) (a1 : Option Addr) (cap1 : Nat) (ax : List (Int × Int)) (w : World) (w0 : IsRow .u8 w a0 len0 cap0 z0) (w1 : ActsAt w a1 ax) (hm1 : ax.length ≤ maxLen) :
    Calls Try.prog 4 #[.slice a0 len0 cap0, .slice a1 ax.length cap1] w fun e w' => e = .returned (.bool true) ∧ Below w.heap.size w w' := by
  obtain ⟨zs, rfl, hc0, hm0, r0⟩ := w0.rowAt
  unfold maxLen at hm1
  by_cases g0 : 5000 < zs.length
  · have g0' : (5000 : Int) < zs.length := by omega
    go_enter Try.func4, Try.ntmps4
    go_wp2_with fail
    refine (lives_any _).mono ?_
    rintro e w4 ⟨rfl, hw4⟩
    go_wp2_with fail
    go_ret
    exact ⟨rfl, hw4⟩
  · have g0' : ¬ (5000 : Int) < zs.length := by omega
    by_cases g1 : 500 < ax.length
    · have g1' : (500 : Int) < ax.length := by omega
      go_enter Try.func4, Try.ntmps4
      go_wp2_with fail
      refine (lives_any _).mono ?_
      rintro e w4 ⟨rfl, hw4⟩
      go_wp2_with fail
      go_ret
      exact ⟨rfl, hw4⟩
    · exact reads_walk a0 cap0 zs a1 cap1 ax w r0 (by omega) w1 (by omega)
set_option maxRecDepth 100000 in
theorem lifted (os : Os) (started : os.Started) (H : Type) (enc : TypeId × Value → H) :
    ReturnsInHanded {} Try.checked os 4 .any (Rows.tallyReadsSpec.pre6 enc Try.prog Try.f4 Rows.tallyReadsRow.domain false) (Rows.tallyReadsSpec.post enc Try.prog Try.f4 false true false false) := by
  refine returnsInHanded_of_change (C := Try.checked) own started (by kernel_rfl) Try.func4
    (ChangeSpec.witness6 (enc := enc) (C := Try.checked) false ⟨#[], #[.slice none 0 0, .slice none 0 0], []⟩ 8 (by kernel_rfl) (by kernel_rfl) (by kernel_rfl) (by kernel_rfl)) ?_
  intro W base args ds gs before hval0 hW hcnd _
  have hval : ∀ (j : Nat) t v, Try.f4.params[j]? = some t → args[j]? = some v → Value.okWide Try.prog W .any base t v := hval0
  have hW' := hW
  obtain ⟨p, q, hA0, hV, rfl, hfz, hnd⟩ := hW
  have hA : DataW.TrodAll enc Try.prog W 0 (fun _ => true) true Try.f4.params.toList args.toList ds p := hA0
  rw [Try.params4] at hA hval
  obtain ⟨v0, vs0, d0, ds0, p0, q0, hargs, rfl, rfl, h0, r0⟩ := trodAll_cons hA
  obtain ⟨v1, vs1, d1, ds1, p1, q1, rfl, rfl, rfl, h1, r1⟩ := trodAll_cons r0
  obtain ⟨rfl, rfl, rfl⟩ := trodAll_nil r1
  obtain rfl : args = #[v0, v1] := by cases args; simp_all
  obtain ⟨rfl, rfl⟩ := trodVars_none hV
  obtain ⟨a0, len0, cap0, rfl⟩ := okWide_slice Try.underlying22 (hval 0 22 v0 rfl rfl)
  obtain ⟨a1, len1, cap1, rfl⟩ := okWide_slice Try.underlying28 (hval 1 28 v1 rfl rfl)
  have k0 := h0
  have lt0 : ∀ x ∈ p0, x.block < W.heap.size := by obtain ⟨m, hm⟩ := k0; exact DataW.trod_lt m _ _ _ hm
  have k1 := h1
  have lt1 : ∀ x ∈ p1, x.block < W.heap.size := by obtain ⟨m, hm⟩ := k1; exact DataW.trod_lt m _ _ _ hm
  obtain ⟨z0, w0⟩ : ∃ zs, IsRow .u8 W a0 len0 cap0 zs := by
    obtain ⟨fuel, hf⟩ := h0
    rcases open_ints Try.underlying22 Try.underlying5 (by kernel_rfl) hf with ⟨hcs, _⟩ | ⟨x, l, c, zs, hcs, _, hl, hm, hz, _, hcell, hwz⟩
    · simp [Value.cells] at hcs
      obtain ⟨rfl, rfl, rfl⟩ := hcs
      exact ⟨[], .inl ⟨rfl, rfl, rfl, rfl⟩⟩
    · simp [Value.cells] at hcs
      obtain ⟨rfl, rfl, rfl⟩ := hcs
      exact ⟨zs, .inr ⟨_, rfl, hl, hm, by simpa using hz, hcell, hwz⟩⟩
  obtain ⟨ax, rfl, w1, hm1⟩ : ∃ ax : List (Int × Int), len1 = ax.length ∧ ActsAt W a1 ax ∧ ax.length ≤ maxLen := by
    obtain ⟨fuel, hf⟩ := h1
    obtain ⟨ax, e1, e2⟩ := open_acts hf
    refine ⟨ax, e1, e2, ?_⟩
    rcases DataW.trod_slice Try.underlying28 hf with ⟨hcs, _⟩ | ⟨ad, l, c, elems, rest, m', _, hcs, _, hb, hl, hm, _⟩
    · simp [Value.cells] at hcs
      obtain ⟨rfl, rfl, rfl⟩ := hcs
      omega
    · simp [Value.cells] at hcs
      obtain ⟨rfl, rfl, rfl⟩ := hcs
      omega
  clear hA0 hval0
  refine (walk a0 len0 cap0 z0 a1 cap1 ax W w0 w1 hm1).mono fun e W' ⟨he, bel⟩ => ?_
  subst he
  exact ⟨_, rfl, _, _, _, [], _, [], hW', trodAll_mk1 (shut_bool Try.underlying4 _), (trodAll_cons_mk (Below.trod laidOut (by kernel_rfl) (of_decide_eq_true (by kernel_rfl)) k0 bel lt0) (trodAll_cons_mk (Below.trod laidOut (by kernel_rfl) (of_decide_eq_true (by kernel_rfl)) k1 bel lt1) trodAll_mk0)), rfl, bel.frame _, fun h => by cases h⟩
theorem over : Rows.tallyReadsRow.holds Try.pinned (OpenSpec.ofChange Rows.tallyReadsSpec) :=
  OpenClaim.holds_of_wide 4 Try.f4 rfl rfl rfl rfl rfl rfl rfl ⟨rfl, rfl, rfl, rfl, rfl⟩ rfl rfl rfl rfl rfl (by kernel_rfl) Try.func4 (by kernel_rfl)
    (of_decide_eq_true (by kernel_rfl)) (by unfold Func.isWrapper; first | (rw [if_pos (by decide +kernel)]; kernel_rfl) | (rw [if_neg (by decide +kernel)]; exact ⟨rfl, rfl⟩))
    (fun os started H enc _ => lifted os started H enc)
end Go.Proofs.Ytiihfjoikoogfaa.tallyReads
namespace Go.Proofs.Ytiihfjoikoogfaa
theorem tallyReads_holds : Rows.TallyReadsSaid := tallyReads.over
#print axioms tallyReads_holds
end Go.Proofs.Ytiihfjoikoogfaa
