/- a journal: Sync, Append; a journal: an area is filled anew; a journal: Lay; a journal's Bytes; the journal's find -/
import Derived.Test.YtfkchnjbbbhmjaaXF8
import Derived.Test.YtfkchnjbbbhmjaaXF10
namespace Go.Proofs.Ytfkchnjbbbhmjaa
open Go.RowKit
def Mt.jsync (M : Mt) (j : Jv) : Int × Mt := if M.jon j.fs then M.sync j.ar else (150, M)
def Mt.jappend (M : Mt) (j : Jv) (zs : List Int) : Int × Mt := if M.jon j.fs then if zs.length ≤ 4194304 then M.append j.ar (Ty.frameL 68 (strOf zs)) else (3, M) else (150, M)
set_option maxRecDepth 100000 in
set_option maxHeartbeats 4000000 in
theorem jsync_any (j : Jv) (M : Mt) (A : Nat → Prop) (w0 : World) (h : JAt w0 j) (hT : Live A w0 j.p M) (hA : ∀ b, A b → b < w0.heap.size) (hAq : A j.q) :
    Calls Try.prog 59 #[jptr j] w0 fun e w' => e = .returned (.int .i64 (M.jsync j).1) ∧ Live A w' j.p (M.jsync j).2 ∧ JAt w' j ∧ Off (fun b => ¬ A b) w0 w' := by
  have cT := jtakes_any j M A none 0 [] w0 h hT (.inl rfl) (by simp)
  have hq := h.lt
  unfold Mt.jsync
  unfold jptr at *
  cases hon : M.jon j.fs
  · rw [hon, show takesE false [] = 150 from rfl] at cT
    rw [if_neg (by simp)]
    clear hon
    go_enter Try.func59, Try.ntmps59
    go_wp2_with fail
    refine cT.mono ?_
    rintro e w1 ⟨rfl, hB1⟩
    have HF := hide (And.intro (hT.below hB1) (And.intro (h.below hB1) (Off.of_below (F := fun b => ¬ A b) hB1)))
    clear cT h hT
    go_wp2_with fail
    go_ret
    exact ⟨rfl, HF.out⟩
  · rw [hon, show takesE true [] = 0 by unfold takesE; simp] at cT
    rw [if_pos rfl]
    clear hon
    obtain ⟨se, hse⟩ : ∃ se, Hid (M.sync j.ar = se) := ⟨_, hide rfl⟩
    rw [hse.out]
    go_enter Try.func59, Try.ntmps59
    go_wp2_with fail
    refine cT.mono ?_
    rintro e w ⟨rfl, hB1⟩
    clear cT
    have hJ1 := h.below hB1
    go_wp2_with fail
    obtain ⟨w8, hw8⟩ : ∃ w8, w.drew = w8 := ⟨_, rfl⟩
    have B18 : Below w.heap.size w w8 := by rw [← hw8]; exact (Below.refl _ _).drew
    have B8 : Below w0.heap.size w0 w8 := hB1.trans (B18.mono hB1.size)
    have hA8 : ∀ b, A b → b < w8.heap.size := fun b hb => Nat.lt_of_lt_of_le (hA b hb) B8.size
    have hq8 : j.q < w8.heap.size := Nat.lt_of_lt_of_le hq B8.size
    have x0 : ∀ w' : World, w'.heap[j.q]? = w.heap[j.q]? → w'.cell? ⟨j.q, 0, none⟩ = some (.pointer (some ⟨j.p, 0, none⟩)) := fun w' q => (hJ1.at q).cell 0 rfl
    have x1 : ∀ w' : World, w'.heap[j.q]? = w.heap[j.q]? → w'.cell? ⟨j.q, 1, none⟩ = some (.int .i64 j.ar) := fun w' q => (hJ1.at q).cell 1 rfl
    refine hs_begin (S := (fun w' : World => w'.heap[j.q]? = w.heap[j.q]?)) 10 rfl (by kernel_rfl) ?_
    rw [hw8]
    clear hw8
    have hS : (fun w' : World => w'.heap[j.q]? = w.heap[j.q]?) w8 := B18.block _ hJ1.lt
    refine hs_take (i := 0) (d := some 9) (v := ?_) rfl (by kernel_rfl) (by kernel_rfl) (by kernel_rfl) (by rfl) ?_ hS rfl ?_
    rotate_left
    · intro w' hw
      go_simp
      try with_reducible rfl
    simp only [Act.put, List.setIfInBounds_toArray, List.set_cons_zero, List.set_cons_succ]
    refine hs_take (i := 1) (d := some 10) (v := ?_) rfl (by kernel_rfl) (by kernel_rfl) (by kernel_rfl) (by rfl) ?_ hS rfl ?_
    rotate_left
    · intro w' hw
      go_simp
      try with_reducible rfl
    simp only [Act.put, List.setIfInBounds_toArray, List.set_cons_zero, List.set_cons_succ]
    refine hs_take (i := 2) (d := some 11) (v := ?_) rfl (by kernel_rfl) (by kernel_rfl) (by kernel_rfl) (by rfl) ?_ hS rfl ?_
    rotate_left
    · intro w' hw
      go_simp
      try with_reducible rfl
    simp only [Act.put, List.setIfInBounds_toArray, List.set_cons_zero, List.set_cons_succ]
    refine hs_take (i := 3) (d := some 12) (v := ?_) rfl (by kernel_rfl) (by kernel_rfl) (by kernel_rfl) (by rfl) ?_ hS rfl ?_
    rotate_left
    · intro w' hw
      have hc := x0 w' hw
      go_simp
      try with_reducible rfl
    simp only [Act.put, List.setIfInBounds_toArray, List.set_cons_zero, List.set_cons_succ]
    refine hs_take (i := 4) (d := some 13) (v := ?_) rfl (by kernel_rfl) (by kernel_rfl) (by kernel_rfl) (by rfl) ?_ hS rfl ?_
    rotate_left
    · intro w' hw
      go_simp
      try with_reducible rfl
    simp only [Act.put, List.setIfInBounds_toArray, List.set_cons_zero, List.set_cons_succ]
    refine hs_take (i := 5) (d := some 14) (v := ?_) rfl (by kernel_rfl) (by kernel_rfl) (by kernel_rfl) (by rfl) ?_ hS rfl ?_
    rotate_left
    · intro w' hw
      go_simp
      try with_reducible rfl
    simp only [Act.put, List.setIfInBounds_toArray, List.set_cons_zero, List.set_cons_succ]
    refine hs_take (i := 6) (d := some 15) (v := ?_) rfl (by kernel_rfl) (by kernel_rfl) (by kernel_rfl) (by rfl) ?_ hS rfl ?_
    rotate_left
    · intro w' hw
      go_simp
      try with_reducible rfl
    simp only [Act.put, List.setIfInBounds_toArray, List.set_cons_zero, List.set_cons_succ]
    refine hs_take (i := 7) (d := some 16) (v := ?_) rfl (by kernel_rfl) (by kernel_rfl) (by kernel_rfl) (by rfl) ?_ hS rfl ?_
    rotate_left
    · intro w' hw
      have hc := x1 w' hw
      go_simp
      try with_reducible rfl
    simp only [Act.put, List.setIfInBounds_toArray, List.set_cons_zero, List.set_cons_succ]
    refine hs_call (i := 8) (d := some 17) rfl (by kernel_rfl) (by rfl) (by go_simp; first | done | exact ⟨rfl, rfl⟩ | with_reducible rfl) rfl ?_
    refine (live_sync (hT.below B8) hA8 j.ar).mono ?_
    rintro e' wB ⟨rfl, hTB, hOB⟩
    have hS : (fun w' : World => w'.heap[j.q]? = w.heap[j.q]?) wB := (hOB.2 _ hq8 (fun q => q hAq)).trans hS
    refine ⟨_, rfl, hS, ?_⟩
    simp only [Act.put, List.setIfInBounds_toArray, List.set_cons_zero, List.set_cons_succ]
    refine hs_take (i := 9) (d := some 2) (v := ?_) rfl (by kernel_rfl) (by kernel_rfl) (by kernel_rfl) (by rfl) ?_ hS rfl ?_
    rotate_left
    · intro w' hw
      go_simp
      try with_reducible rfl
    simp only [Act.put, List.setIfInBounds_toArray, List.set_cons_zero, List.set_cons_succ]
    refine hs_done (by kernel_rfl) ?_
    rw [hse.out] at hTB
    have HF := hide (And.intro hTB (And.intro (hJ1.at hS) ((Off.of_below (F := fun b => ¬ A b) B8).trans hOB (fun _ _ q => q))))
    rw [hse.out]
    clear hTB hS hOB x0 x1
    go_wp2_with fail
    go_ret
    exact ⟨rfl, HF.out⟩
set_option maxRecDepth 100000 in
set_option maxHeartbeats 4000000 in
theorem jappend_any (j : Jv) (M : Mt) (A : Nat → Prop) (a : Option Addr) (cap : Nat) (zs : List Int) (w0 : World) (h : JAt w0 j) (hT : Live A w0 j.p M) (hA : ∀ b, A b → b < w0.heap.size) (hAq : A j.q) (hz : RowAt w0 a zs) :
    Calls Try.prog 58 #[jptr j, .slice a zs.length cap] w0 fun e w' => e = .returned (.int .i64 (M.jappend j zs).1) ∧ Live A w' j.p (M.jappend j zs).2 ∧ JAt w' j ∧ Off (fun b => ¬ A b) w0 w' := by
  have hb1 : Below w0.heap.size w0 (w0.alloc (.cells #[.slice a zs.length cap] 29)) := (Below.refl _ _).alloc (Nat.le_refl _) _
  have hR1 : RowOf Rc.cells (w0.alloc (.cells #[.slice a zs.length cap] 29)) (some ⟨w0.heap.size, 0, none⟩) [⟨a, cap, zs⟩] := .inr ⟨w0.heap.size, 0, rfl, by simp, range_new w0 #[.slice a zs.length cap] 29⟩
  have cT := jtakes_any j M A (some ⟨w0.heap.size, 0, none⟩) 1 [⟨a, cap, zs⟩] _ (h.below hb1) (hT.below hb1) hR1 (by unfold maxLen; simp)
  have hq := h.lt
  have hzl := hz.1
  unfold maxLen at hzl
  unfold Mt.jappend
  unfold jptr at *
  have stay : ∀ w', Below w0.heap.size w0 w' → Live A w' j.p M ∧ JAt w' j ∧ Off (fun b => ¬ A b) w0 w' := fun w' hb => ⟨hT.below hb, h.below hb, Off.of_below hb⟩
  cases hon : M.jon j.fs
  · rw [hon, show takesE false [⟨a, cap, zs⟩] = 150 from rfl] at cT
    rw [if_neg (by simp)]
    clear hon
    go_enter Try.func58, Try.ntmps58
    go_wp2_with fail
    refine cT.mono ?_
    rintro e w1 ⟨rfl, hB1⟩
    have HF := hide (stay w1 (hb1.trans (hB1.mono hb1.size)))
    clear cT h hT stay
    go_wp2_with fail
    go_ret
    exact ⟨rfl, HF.out⟩
  · rw [if_pos rfl]
    by_cases hlong : zs.length ≤ 4194304
    rotate_left
    · rw [hon, show takesE true [⟨a, cap, zs⟩] = 3 by unfold takesE; simp [hlong]] at cT
      rw [if_neg hlong]
      clear hon
      go_enter Try.func58, Try.ntmps58
      go_wp2_with fail
      refine cT.mono ?_
      rintro e w1 ⟨rfl, hB1⟩
      have HF := hide (stay w1 (hb1.trans (hB1.mono hb1.size)))
      clear cT h hT stay
      go_wp2_with fail
      go_ret
      exact ⟨rfl, HF.out⟩
    · rw [hon, show takesE true [⟨a, cap, zs⟩] = 0 by unfold takesE; simp [hlong]] at cT
      rw [if_pos hlong]
      clear hon stay
      have hfl : (Ty.frameL 68 (strOf zs)).length ≤ 100000000 := by
        have := Ty.Tal.putL_length (((strOf zs).size : Nat) : Int) (by rw [Ty.strOf_size]; omega)
        simp only [Ty.frameL, Ty.sumL, Ty.kindL, Ty.textL, List.length_append, List.length_cons, List.length_nil, Ty.strL_length, Ty.strOf_size] at *
        omega
      have hfresh : ∀ {w8 wB : World} {fa : Option Addr} {fc : Nat}, Ty.Mine wB w8.heap.size (.slice fa (Ty.frameL 68 (strOf zs)).length fc) (Ty.frameL 68 (strOf zs)) → Ty.frameL 68 (strOf zs) = [] ∨ ∀ x, fa = some x → More A w8 wB x.block := fun {w8 wB fa fc} hm => by
        rcases own_range hm.1 with ⟨e1, e2, _⟩ | ⟨g, c, e1, e2, e3, _⟩
        · left; exact List.eq_nil_of_length_eq_zero e2
        · right
          intro x hx
          simp only [Value.slice.injEq] at e1
          rw [hx] at e1
          have := e1.1
          simp only [Option.some.injEq] at this
          subst this
          exact .inr ⟨e2, e3⟩
      obtain ⟨se, hse⟩ : ∃ se, Hid (M.append j.ar (Ty.frameL 68 (strOf zs)) = se) := ⟨_, hide rfl⟩
      rw [hse.out]
      go_enter Try.func58, Try.ntmps58
      go_wp2_with fail
      refine cT.mono ?_
      rintro e w ⟨rfl, hB1'⟩
      clear cT
      have hB1 := hb1.trans (hB1'.mono hb1.size)
      have hJ1 := h.below hB1
      go_wp2_with fail
      obtain ⟨w8, hw8⟩ : ∃ w8, w.drew = w8 := ⟨_, rfl⟩
      have B18 : Below w.heap.size w w8 := by rw [← hw8]; exact (Below.refl _ _).drew
      have B8 : Below w0.heap.size w0 w8 := hB1.trans (B18.mono hB1.size)
      have hA8 : ∀ b, A b → b < w8.heap.size := fun b hb => Nat.lt_of_lt_of_le (hA b hb) B8.size
      have hq8 : j.q < w8.heap.size := Nat.lt_of_lt_of_le hq B8.size
      have x0 : ∀ w' : World, w'.heap[j.q]? = w.heap[j.q]? → w'.cell? ⟨j.q, 0, none⟩ = some (.pointer (some ⟨j.p, 0, none⟩)) := fun w' q => (hJ1.at q).cell 0 rfl
      have x1 : ∀ w' : World, w'.heap[j.q]? = w.heap[j.q]? → w'.cell? ⟨j.q, 1, none⟩ = some (.int .i64 j.ar) := fun w' q => (hJ1.at q).cell 1 rfl
      refine hs_begin (S := (fun w' : World => w'.heap[j.q]? = w.heap[j.q]?)) 12 rfl (by kernel_rfl) ?_
      rw [hw8]
      clear hw8
      have hS : (fun w' : World => w'.heap[j.q]? = w.heap[j.q]?) w8 := B18.block _ hJ1.lt
      refine hs_take (i := 0) (d := some 13) (v := ?_) rfl (by kernel_rfl) (by kernel_rfl) (by kernel_rfl) (by rfl) ?_ hS rfl ?_
      rotate_left
      · intro w' hw
        go_simp
        try with_reducible rfl
      simp only [Act.put, List.setIfInBounds_toArray, List.set_cons_zero, List.set_cons_succ]
      refine hs_take (i := 1) (d := some 14) (v := ?_) rfl (by kernel_rfl) (by kernel_rfl) (by kernel_rfl) (by rfl) ?_ hS rfl ?_
      rotate_left
      · intro w' hw
        go_simp
        try with_reducible rfl
      simp only [Act.put, List.setIfInBounds_toArray, List.set_cons_zero, List.set_cons_succ]
      refine hs_take (i := 2) (d := some 15) (v := ?_) rfl (by kernel_rfl) (by kernel_rfl) (by kernel_rfl) (by rfl) ?_ hS rfl ?_
      rotate_left
      · intro w' hw
        go_simp
        try with_reducible rfl
      simp only [Act.put, List.setIfInBounds_toArray, List.set_cons_zero, List.set_cons_succ]
      refine hs_take (i := 3) (d := some 16) (v := ?_) rfl (by kernel_rfl) (by kernel_rfl) (by kernel_rfl) (by rfl) ?_ hS rfl ?_
      rotate_left
      · intro w' hw
        have hc := x0 w' hw
        go_simp
        try with_reducible rfl
      simp only [Act.put, List.setIfInBounds_toArray, List.set_cons_zero, List.set_cons_succ]
      refine hs_take (i := 4) (d := some 17) (v := ?_) rfl (by kernel_rfl) (by kernel_rfl) (by kernel_rfl) (by rfl) ?_ hS rfl ?_
      rotate_left
      · intro w' hw
        go_simp
        try with_reducible rfl
      simp only [Act.put, List.setIfInBounds_toArray, List.set_cons_zero, List.set_cons_succ]
      refine hs_take (i := 5) (d := some 18) (v := ?_) rfl (by kernel_rfl) (by kernel_rfl) (by kernel_rfl) (by rfl) ?_ hS rfl ?_
      rotate_left
      · intro w' hw
        go_simp
        try with_reducible rfl
      simp only [Act.put, List.setIfInBounds_toArray, List.set_cons_zero, List.set_cons_succ]
      refine hs_take (i := 6) (d := some 19) (v := ?_) rfl (by kernel_rfl) (by kernel_rfl) (by kernel_rfl) (by rfl) ?_ hS rfl ?_
      rotate_left
      · intro w' hw
        go_simp
        try with_reducible rfl
      simp only [Act.put, List.setIfInBounds_toArray, List.set_cons_zero, List.set_cons_succ]
      refine hs_take (i := 7) (d := some 20) (v := ?_) rfl (by kernel_rfl) (by kernel_rfl) (by kernel_rfl) (by rfl) ?_ hS rfl ?_
      rotate_left
      · intro w' hw
        have hc := x1 w' hw
        go_simp
        try with_reducible rfl
      simp only [Act.put, List.setIfInBounds_toArray, List.set_cons_zero, List.set_cons_succ]
      refine hs_take (i := 8) (d := some 21) (v := ?_) rfl (by kernel_rfl) (by kernel_rfl) (by kernel_rfl) (by rfl) ?_ hS rfl ?_
      rotate_left
      · intro w' hw
        go_simp
        try with_reducible rfl
      simp only [Act.put, List.setIfInBounds_toArray, List.set_cons_zero, List.set_cons_succ]
      refine hs_call (i := 9) (d := some 22) rfl (by kernel_rfl) (by rfl) (by go_simp; first | done | exact ⟨rfl, rfl⟩ | with_reducible rfl) rfl ?_
      refine (Ty.frame_any 68 a cap zs w8 (hz.below B8) (by omega) (by omega)).mono ?_
      rintro e' wB ⟨vF, rfl, hMF, hBF⟩
      obtain ⟨fa, fc, rfl, -, -, hRF⟩ := hMF.row (by omega)
      have hS : (fun w' : World => w'.heap[j.q]? = w.heap[j.q]?) wB := (hBF.block _ hq8).trans hS
      refine ⟨_, rfl, hS, ?_⟩
      simp only [Act.put, List.setIfInBounds_toArray, List.set_cons_zero, List.set_cons_succ]
      refine hs_call (i := 10) (d := some 23) rfl (by kernel_rfl) (by rfl) (by go_simp; first | done | exact ⟨rfl, rfl⟩ | with_reducible rfl) rfl ?_
      refine (live_append ((hT.below B8).widen hBF) (More.lt hA8 hBF.size) j.ar fa fc (Ty.frameL 68 (strOf zs)) hRF (hfresh hMF)).mono ?_
      rintro e' wC ⟨rfl, hTC, hOC⟩
      have hS : (fun w' : World => w'.heap[j.q]? = w.heap[j.q]?) wC := (hOC.2 _ (Nat.lt_of_lt_of_le hq8 hBF.size) (fun q => q (.inl hAq))).trans hS
      refine ⟨_, rfl, hS, ?_⟩
      simp only [Act.put, List.setIfInBounds_toArray, List.set_cons_zero, List.set_cons_succ]
      refine hs_take (i := 11) (d := some 4) (v := ?_) rfl (by kernel_rfl) (by kernel_rfl) (by kernel_rfl) (by rfl) ?_ hS rfl ?_
      rotate_left
      · intro w' hw
        go_simp
        try with_reducible rfl
      simp only [Act.put, List.setIfInBounds_toArray, List.set_cons_zero, List.set_cons_succ]
      refine hs_done (by kernel_rfl) ?_
      rw [hse.out] at hTC
      have HF := hide (And.intro (hTC.narrow (A' := A) (fun b hb => .inl hb)) (And.intro (hJ1.at hS) (((Off.of_below (F := fun b => ¬ A b) B8).trans (Off.of_below (F := fun b => ¬ A b) hBF) (fun _ _ q => q)).trans (hOC.mono (fun b _ q q1 => q (.inl q1))) (fun _ _ q => q))))
      rw [hse.out]
      clear hTC hS hOC x0 x1 hMF hRF hfresh
      go_wp2_with fail
      go_ret
      exact ⟨rfl, HF.out⟩
end Go.Proofs.Ytfkchnjbbbhmjaa
namespace Go.Proofs.Ytfkchnjbbbhmjaa
open Go.RowKit
theorem frame_len (k : Int) (zs : List Int) (h : zs.length ≤ 100000000) : (Ty.frameL k (strOf zs)).length ≤ 100000020 := by
  have := Ty.Tal.putL_length (((strOf zs).size : Nat) : Int) (by rw [Ty.strOf_size]; omega)
  simp only [Ty.frameL, Ty.sumL, Ty.kindL, Ty.textL, List.length_append, List.length_cons, List.length_nil, Ty.strL_length, Ty.strOf_size] at *
  omega
theorem mine_fresh {A : Nat → Prop} {w8 wB : World} {fa : Option Addr} {n fc : Nat} {L : List Int} (hm : Ty.Mine wB w8.heap.size (.slice fa n fc) L) : L = [] ∨ ∀ x, fa = some x → More A w8 wB x.block := by
  rcases own_range hm.1 with ⟨e1, e2, _⟩ | ⟨g, c, e1, e2, e3, _⟩
  · left; exact List.eq_nil_of_length_eq_zero e2
  · right
    intro x hx
    simp only [Value.slice.injEq] at e1
    rw [hx] at e1
    have := e1.1
    simp only [Option.some.injEq] at this
    subst this
    exact .inr ⟨e2, e3⟩
theorem nilRow {w : World} : RowAt w none [] := ⟨by unfold maxLen; simp, by simp, .inl rfl⟩
/-- records, one behind the other -/
def layRecs (area : Int) : List (List Int) → Mt → Int × Mt
  | [], M => (0, M)
  | z :: zs, M => if (M.append area (Ty.frameL 68 (strOf z))).1 = 0 then layRecs area zs (M.append area (Ty.frameL 68 (strOf z))).2 else M.append area (Ty.frameL 68 (strOf z))
/-- only if there was no error ahead -/
def onward (r : Int × Mt) (f : Mt → Int × Mt) : Int × Mt := if r.1 = 0 then f r.2 else r
def writeM (M : Mt) (area tu : Int) (zss : List (List Int)) : Int × Mt :=
  onward (M.empty area) fun M1 => onward (layRecs area zss M1) fun M2 => onward (M2.append area (Ty.frameL 71 (strOf (Ty.Tal.putL tu)))) fun M3 => M3.sync area
set_option maxRecDepth 100000 in
set_option maxHeartbeats 4000000 in
theorem jwrite_any (j : Jv) (M : Mt) (A : Nat → Prop) (ar tu : Int) (ra : Option Addr) (rc : Nat) (rs : List Rc) (w0 : World) (h : JAt w0 j) (hT : Live A w0 j.p M) (hA : ∀ b, A b → b < w0.heap.size) (hAq : A j.q) (htu : tu ≤ 9223372036854775807)
    (hr : RowOf Rc.cells w0 ra rs) (hl : rs.length ≤ maxLen) (hrA : rs = [] ∨ ∀ x, ra = some x → A x.block) (hrs : ∀ r ∈ rs, RowAt w0 r.a r.zs ∧ r.zs.length ≤ 4194304 ∧ (r.zs = [] ∨ ∀ x, r.a = some x → A x.block)) :
    Calls Try.prog 99 #[jptr j, .int .i64 ar, .int .i64 tu, .slice ra rs.length rc] w0 fun e w' => e = .returned (.int .i64 (writeM M ar tu (rs.map Rc.zs)).1) ∧ Live A w' j.p (writeM M ar tu (rs.map Rc.zs)).2 ∧ JAt w' j ∧ Off (fun b => ¬ A b) w0 w' := by
  have hx0 := h.cell 0 rfl
  have cC := live_clear hT hA ar
  have hpt := Ty.Tal.putL_length tu (by omega)
  unfold maxLen at hl
  obtain ⟨we, hwe⟩ : ∃ we, writeM M ar tu (rs.map Rc.zs) = we := ⟨_, rfl⟩
  rw [hwe]
  have HW := hide hwe
  clear hwe
  obtain ⟨ce, hce⟩ : ∃ ce, M.empty ar = ce := ⟨_, rfl⟩
  obtain ⟨cE, M1⟩ := ce
  have HC := hide hce
  rw [hce] at cC
  clear hce
  unfold jptr at *
  go_enter Try.func99, Try.ntmps99
  go_wp2_with fail
  refine cC.mono ?_
  rintro e w1 ⟨rfl, hT1, hO1⟩
  clear cC hx0
  have hJ1 : JAt w1 j := h.at (hO1.2 _ h.lt (fun q => q hAq))
  by_cases hcE : cE = 0
  rotate_left
  · have hz0 : (cE == 0) = false := by simpa using hcE
    have HF : Hid (we = (cE, M1)) := hide (by rw [← HW.out]; unfold writeM onward; rw [HC.out, if_neg hcE])
    clear hcE
    have HG := hide (And.intro hT1 (And.intro hJ1 hO1))
    clear hT1 hO1
    go_wp2_with fail
    go_ret
    exact ⟨by rw [HF.out]; rfl, by rw [HF.out]; exact HG.out⟩
  · subst hcE
    have HW1 : Hid (onward (layRecs ar (rs.map Rc.zs) M1) (fun M2 => onward (M2.append ar (Ty.frameL 71 (strOf (Ty.Tal.putL tu)))) fun M3 => M3.sync ar) = we) := hide (by
      have := HW.out
      unfold writeM at this
      rw [HC.out] at this
      exact this)
    clear HW HC hT
    go_wp2_with fail
    go_loopw [25] (fun iv wr => ∃ (k : Nat) (Mk : Mt), k ≤ rs.length ∧ iv = .int .i64 (k : Int) ∧ Live A wr j.p Mk ∧ JAt wr j ∧ Off (fun b => ¬ A b) w0 wr ∧ Hid (layRecs ar (rs.map Rc.zs) M1 = layRecs ar ((rs.drop k).map Rc.zs) Mk)) (fun iv _ => rs.length - (intOf iv).toNat)
    case atStart => exact ⟨0, M1, by omega, rfl, hT1, hJ1, hO1, hide rfl⟩
    case round =>
      clear hT1 hJ1 hO1
      obtain ⟨k, Mk, hk, rfl, hTw, hJw, hOw, HL⟩ := hrel
      obtain ⟨w, rfl⟩ : ∃ w, w = wr := ⟨_, rfl⟩
      have hAw : ∀ b, A b → b < w.heap.size := fun b hb => Nat.lt_of_lt_of_le (hA b hb) hOw.size
      by_cases hlt : k < rs.length
      · have hltI : (k : Int) < (rs.length : Int) := by omega
        obtain ⟨rb, off, rfl, hrb, hre0⟩ := hr.elem (k := 1) (fun _ _ => rfl) k hlt
        have hAr : A rb := by
          rcases hrA with q | q
          · rw [q] at hlt; simp at hlt
          · exact q _ rfl
        have c0 : w.cell? ⟨rb, off + k, none⟩ = some (.slice rs[k].a rs[k].zs.length rs[k].cap) := by
          have := (range_at hre0 (hOw.2 rb hrb (fun q => q hAr))) 0 _ rfl
          simpa using this
        have hys := hrs _ (List.getElem_mem hlt)
        have HD := hide (List.drop_eq_getElem_cons hlt)
        obtain ⟨y, hy⟩ : ∃ y, Hid (rs[k] = y) := ⟨_, hide rfl⟩
        rw [hy.out] at c0 hys HD
        clear hre0 hy
        obtain ⟨hyr0, hyl, hyA⟩ := hys
        have hyr := hyr0.off hOw (by
          rcases hyA with q | q
          · exact .inl q
          · exact .inr (fun x hx q1 => q1 (q x hx)))
        obtain ⟨ae, hae⟩ : ∃ ae, Hid (Mk.append ar (Ty.frameL 68 (strOf y.zs)) = ae) := ⟨_, hide rfl⟩
        obtain ⟨aE, Ma⟩ := ae
        have HS : Hid (layRecs ar ((rs.drop k).map Rc.zs) Mk = if aE = 0 then layRecs ar ((rs.drop (k + 1)).map Rc.zs) Ma else (aE, Ma)) := hide (by
          rw [HD.out, List.map_cons]
          show (if (Mk.append ar (Ty.frameL 68 (strOf y.zs))).1 = 0 then _ else _) = _
          rw [hae.out])
        go_wp2_with fail
        obtain ⟨w8, hw8⟩ : ∃ w8, w.drew = w8 := ⟨_, rfl⟩
        have B8 : Below w.heap.size w w8 := by rw [← hw8]; exact (Below.refl _ _).drew
        have hA8 : ∀ b, A b → b < w8.heap.size := fun b hb => Nat.lt_of_lt_of_le (hAw b hb) B8.size
        have hq8 : j.q < w8.heap.size := Nat.lt_of_lt_of_le hJw.lt B8.size
        have x0 : ∀ w' : World, w'.heap[j.q]? = w.heap[j.q]? → w'.cell? ⟨j.q, 0, none⟩ = some (.pointer (some ⟨j.p, 0, none⟩)) := fun w' q => (hJw.at q).cell 0 rfl
        refine hs_begin (S := (fun w' : World => w'.heap[j.q]? = w.heap[j.q]?)) 9 rfl (by kernel_rfl) ?_
        rw [hw8]
        clear hw8
        have hS : (fun w' : World => w'.heap[j.q]? = w.heap[j.q]?) w8 := B8.block _ hJw.lt
        refine hs_take (i := 0) (d := some 29) (v := ?_) rfl (by kernel_rfl) (by kernel_rfl) (by kernel_rfl) (by rfl) ?_ hS rfl ?_
        rotate_left
        · intro w' hw
          go_simp
          try with_reducible rfl
        simp only [Act.put, List.setIfInBounds_toArray, List.set_cons_zero, List.set_cons_succ]
        refine hs_take (i := 1) (d := some 30) (v := ?_) rfl (by kernel_rfl) (by kernel_rfl) (by kernel_rfl) (by rfl) ?_ hS rfl ?_
        rotate_left
        · intro w' hw
          go_simp
          try with_reducible rfl
        simp only [Act.put, List.setIfInBounds_toArray, List.set_cons_zero, List.set_cons_succ]
        refine hs_take (i := 2) (d := some 31) (v := ?_) rfl (by kernel_rfl) (by kernel_rfl) (by kernel_rfl) (by rfl) ?_ hS rfl ?_
        rotate_left
        · intro w' hw
          go_simp
          try with_reducible rfl
        simp only [Act.put, List.setIfInBounds_toArray, List.set_cons_zero, List.set_cons_succ]
        refine hs_take (i := 3) (d := some 32) (v := ?_) rfl (by kernel_rfl) (by kernel_rfl) (by kernel_rfl) (by rfl) ?_ hS rfl ?_
        rotate_left
        · intro w' hw
          have hc := x0 w' hw
          go_simp
          try with_reducible rfl
        simp only [Act.put, List.setIfInBounds_toArray, List.set_cons_zero, List.set_cons_succ]
        refine hs_take (i := 4) (d := some 33) (v := ?_) rfl (by kernel_rfl) (by kernel_rfl) (by kernel_rfl) (by rfl) ?_ hS rfl ?_
        rotate_left
        · intro w' hw
          go_simp
          try with_reducible rfl
        simp only [Act.put, List.setIfInBounds_toArray, List.set_cons_zero, List.set_cons_succ]
        refine hs_take (i := 5) (d := some 34) (v := ?_) rfl (by kernel_rfl) (by kernel_rfl) (by kernel_rfl) (by rfl) ?_ hS rfl ?_
        rotate_left
        · intro w' hw
          go_simp
          try with_reducible rfl
        simp only [Act.put, List.setIfInBounds_toArray, List.set_cons_zero, List.set_cons_succ]
        refine hs_call (i := 6) (d := some 35) rfl (by kernel_rfl) (by rfl) (by go_simp; first | done | exact ⟨rfl, rfl⟩ | with_reducible rfl) rfl ?_
        refine (Ty.frame_any 68 y.a y.cap y.zs w8 (hyr.below B8) (by omega) (by omega)).mono ?_
        rintro e' wB ⟨vF, rfl, hMF, hBF⟩
        obtain ⟨fa, fc, rfl, -, -, hRF⟩ := hMF.row (by have := frame_len 68 y.zs (by omega); omega)
        have hS : (fun w' : World => w'.heap[j.q]? = w.heap[j.q]?) wB := (hBF.block _ hq8).trans hS
        refine ⟨_, rfl, hS, ?_⟩
        simp only [Act.put, List.setIfInBounds_toArray, List.set_cons_zero, List.set_cons_succ]
        refine hs_call (i := 7) (d := some 36) rfl (by kernel_rfl) (by rfl) (by go_simp; first | done | exact ⟨rfl, rfl⟩ | with_reducible rfl) rfl ?_
        refine (live_append ((hTw.below B8).widen hBF) (More.lt hA8 hBF.size) ar fa fc (Ty.frameL 68 (strOf y.zs)) hRF (mine_fresh hMF)).mono ?_
        rintro e' wC ⟨rfl, hTC, hOC⟩
        have hS : (fun w' : World => w'.heap[j.q]? = w.heap[j.q]?) wC := (hOC.2 _ (Nat.lt_of_lt_of_le hq8 hBF.size) (fun q => q (.inl hAq))).trans hS
        refine ⟨_, rfl, hS, ?_⟩
        simp only [Act.put, List.setIfInBounds_toArray, List.set_cons_zero, List.set_cons_succ]
        refine hs_take (i := 8) (d := some 12) (v := ?_) rfl (by kernel_rfl) (by kernel_rfl) (by kernel_rfl) (by rfl) ?_ hS rfl ?_
        rotate_left
        · intro w' hw
          go_simp
          try with_reducible rfl
        simp only [Act.put, List.setIfInBounds_toArray, List.set_cons_zero, List.set_cons_succ]
        refine hs_done (by kernel_rfl) ?_
        rw [hae.out] at hTC ⊢
        have hTn := hTC.narrow (A' := A) (fun b hb => .inl hb)
        have hJn := hJw.at hS
        have hOn : Off (fun b => ¬ A b) w0 wC := ((hOw.trans (Off.of_below (F := fun b => ¬ A b) B8) (fun _ _ q => q)).trans (Off.of_below (F := fun b => ¬ A b) hBF) (fun _ _ q => q)).trans (hOC.mono (fun b _ q q1 => q (.inl q1))) (fun _ _ q => q)
        clear hTC hOC hMF hRF x0 hS hTw hOw
        by_cases haE : aE = 0
        · subst haE
          have HN : Hid (layRecs ar (rs.map Rc.zs) M1 = layRecs ar ((rs.drop (k + 1)).map Rc.zs) Ma) := hide (by rw [HL.out, HS.out, if_pos rfl])
          clear HL HS hae HD
          go_wp2_with fail
          go_roundw
          case rel => exact ⟨k + 1, Ma, by omega, by go_num, hTn, hJn, hOn, HN⟩
          case measure => simp [intOf]; omega
        · have hz0 : (aE == 0) = false := by simpa using haE
          have HF : Hid (we = (aE, Ma)) := hide (by
            rw [← HW1.out, HL.out, HS.out, if_neg haE]
            unfold onward
            rw [if_neg haE])
          have HG := hide (And.intro hTn (And.intro hJn hOn))
          clear haE hTn hJn hOn HL HS hae HD
          go_wp2_with fail
          go_ret
          exact ⟨by rw [HF.out]; rfl, by rw [HF.out]; exact HG.out⟩
      · have k1 : ¬ (k : Int) < (rs.length : Int) := by omega
        have HLn : Hid (layRecs ar (rs.map Rc.zs) M1 = (0, Mk)) := hide (by
          rw [HL.out, List.drop_eq_nil_of_le (by omega)]
          rfl)
        obtain ⟨ae, hae⟩ : ∃ ae, Hid (Mk.append ar (Ty.frameL 71 (strOf (Ty.Tal.putL tu))) = ae) := ⟨_, hide rfl⟩
        obtain ⟨aE, Ma⟩ := ae
        have HS : Hid (we = if aE = 0 then Ma.sync ar else (aE, Ma)) := hide (by
          rw [← HW1.out, HLn.out]
          show (if (Mk.append ar (Ty.frameL 71 (strOf (Ty.Tal.putL tu)))).1 = 0 then _ else _) = _
          rw [hae.out])
        clear HL HLn
        go_wp2_with fail
        obtain ⟨w8, hw8⟩ : ∃ w8, w.drew = w8 := ⟨_, rfl⟩
        have B8 : Below w.heap.size w w8 := by rw [← hw8]; exact (Below.refl _ _).drew
        have hA8 : ∀ b, A b → b < w8.heap.size := fun b hb => Nat.lt_of_lt_of_le (hAw b hb) B8.size
        have hq8 : j.q < w8.heap.size := Nat.lt_of_lt_of_le hJw.lt B8.size
        have x0 : ∀ w' : World, w'.heap[j.q]? = w.heap[j.q]? → w'.cell? ⟨j.q, 0, none⟩ = some (.pointer (some ⟨j.p, 0, none⟩)) := fun w' q => (hJw.at q).cell 0 rfl
        refine hs_begin (S := (fun w' : World => w'.heap[j.q]? = w.heap[j.q]?)) 10 rfl (by kernel_rfl) ?_
        rw [hw8]
        clear hw8
        have hS : (fun w' : World => w'.heap[j.q]? = w.heap[j.q]?) w8 := B8.block _ hJw.lt
        refine hs_take (i := 0) (d := some 41) (v := ?_) rfl (by kernel_rfl) (by kernel_rfl) (by kernel_rfl) (by rfl) ?_ hS rfl ?_
        rotate_left
        · intro w' hw
          go_simp
          try with_reducible rfl
        simp only [Act.put, List.setIfInBounds_toArray, List.set_cons_zero, List.set_cons_succ]
        refine hs_take (i := 1) (d := some 42) (v := ?_) rfl (by kernel_rfl) (by kernel_rfl) (by kernel_rfl) (by rfl) ?_ hS rfl ?_
        rotate_left
        · intro w' hw
          go_simp
          try with_reducible rfl
        simp only [Act.put, List.setIfInBounds_toArray, List.set_cons_zero, List.set_cons_succ]
        refine hs_take (i := 2) (d := some 43) (v := ?_) rfl (by kernel_rfl) (by kernel_rfl) (by kernel_rfl) (by rfl) ?_ hS rfl ?_
        rotate_left
        · intro w' hw
          go_simp
          try with_reducible rfl
        simp only [Act.put, List.setIfInBounds_toArray, List.set_cons_zero, List.set_cons_succ]
        refine hs_take (i := 3) (d := some 44) (v := ?_) rfl (by kernel_rfl) (by kernel_rfl) (by kernel_rfl) (by rfl) ?_ hS rfl ?_
        rotate_left
        · intro w' hw
          have hc := x0 w' hw
          go_simp
          try with_reducible rfl
        simp only [Act.put, List.setIfInBounds_toArray, List.set_cons_zero, List.set_cons_succ]
        refine hs_take (i := 4) (d := some 45) (v := ?_) rfl (by kernel_rfl) (by kernel_rfl) (by kernel_rfl) (by rfl) ?_ hS rfl ?_
        rotate_left
        · intro w' hw
          go_simp
          try with_reducible rfl
        simp only [Act.put, List.setIfInBounds_toArray, List.set_cons_zero, List.set_cons_succ]
        refine hs_take (i := 5) (d := some 46) (v := ?_) rfl (by kernel_rfl) (by kernel_rfl) (by kernel_rfl) (by rfl) ?_ hS rfl ?_
        rotate_left
        · intro w' hw
          go_simp
          try with_reducible rfl
        simp only [Act.put, List.setIfInBounds_toArray, List.set_cons_zero, List.set_cons_succ]
        refine hs_call (i := 6) (d := some 47) rfl (by kernel_rfl) (by rfl) (by go_simp; first | done | exact ⟨rfl, rfl⟩ | with_reducible rfl) rfl ?_
        refine (Ty.put_any none 0 [] tu w8 nilRow (by simp) (by omega)).mono ?_
        rintro e' wA ⟨vP, rfl, hMP, hBP⟩
        rw [List.nil_append] at hMP
        obtain ⟨pa, pc, rfl, -, -, hRP⟩ := hMP.row (by omega)
        have hS : (fun w' : World => w'.heap[j.q]? = w.heap[j.q]?) wA := (hBP.block _ hq8).trans hS
        refine ⟨_, rfl, hS, ?_⟩
        simp only [Act.put, List.setIfInBounds_toArray, List.set_cons_zero, List.set_cons_succ]
        refine hs_call (i := 7) (d := some 48) rfl (by kernel_rfl) (by rfl) (by go_simp; first | done | exact ⟨rfl, rfl⟩ | with_reducible rfl) rfl ?_
        refine (Ty.frame_any 71 pa pc (Ty.Tal.putL tu) wA hRP (by omega) (by omega)).mono ?_
        rintro e' wB ⟨vF, rfl, hMF, hBF⟩
        obtain ⟨fa, fc, rfl, -, -, hRF⟩ := hMF.row (by have := frame_len 71 (Ty.Tal.putL tu) (by omega); omega)
        have hS : (fun w' : World => w'.heap[j.q]? = w.heap[j.q]?) wB := (hBF.block _ (Nat.lt_of_lt_of_le hq8 hBP.size)).trans hS
        refine ⟨_, rfl, hS, ?_⟩
        simp only [Act.put, List.setIfInBounds_toArray, List.set_cons_zero, List.set_cons_succ]
        refine hs_call (i := 8) (d := some 49) rfl (by kernel_rfl) (by rfl) (by go_simp; first | done | exact ⟨rfl, rfl⟩ | with_reducible rfl) rfl ?_
        refine (live_append ((hTw.below (B8.trans (hBP.mono B8.size))).widen hBF) (More.lt (fun b hb => Nat.lt_of_lt_of_le (hA8 b hb) hBP.size) hBF.size) ar fa fc (Ty.frameL 71 (strOf (Ty.Tal.putL tu))) hRF (mine_fresh hMF)).mono ?_
        rintro e' wC ⟨rfl, hTC, hOC⟩
        have hS : (fun w' : World => w'.heap[j.q]? = w.heap[j.q]?) wC := (hOC.2 _ (Nat.lt_of_lt_of_le (Nat.lt_of_lt_of_le hq8 hBP.size) hBF.size) (fun q => q (.inl hAq))).trans hS
        refine ⟨_, rfl, hS, ?_⟩
        simp only [Act.put, List.setIfInBounds_toArray, List.set_cons_zero, List.set_cons_succ]
        refine hs_take (i := 9) (d := some 13) (v := ?_) rfl (by kernel_rfl) (by kernel_rfl) (by kernel_rfl) (by rfl) ?_ hS rfl ?_
        rotate_left
        · intro w' hw
          go_simp
          try with_reducible rfl
        simp only [Act.put, List.setIfInBounds_toArray, List.set_cons_zero, List.set_cons_succ]
        refine hs_done (by kernel_rfl) ?_
        rw [hae.out] at hTC ⊢
        have hTn := hTC.narrow (A' := A) (fun b hb => .inl hb)
        have hJn := hJw.at hS
        have hOn : Off (fun b => ¬ A b) w0 wC := (((hOw.trans (Off.of_below (F := fun b => ¬ A b) B8) (fun _ _ q => q)).trans (Off.of_below (F := fun b => ¬ A b) hBP) (fun _ _ q => q)).trans (Off.of_below (F := fun b => ¬ A b) hBF) (fun _ _ q => q)).trans (hOC.mono (fun b _ q q1 => q (.inl q1))) (fun _ _ q => q)
        have hAn : ∀ b, A b → b < wC.heap.size := fun b hb => Nat.lt_of_lt_of_le (hA b hb) hOn.size
        clear hTC hOC hMF hRF hMP hRP x0 hS hTw hOw
        by_cases haE : aE = 0
        · subst haE
          have cY := live_sync hTn hAn ar
          have xn := hJn.cell 0 rfl
          rw [if_pos rfl] at HS
          rw [← HS.out] at cY
          clear hTn
          go_wp2_with fail
          refine cY.mono ?_
          rintro e w9 ⟨rfl, hT9, hO9⟩
          have HG := hide (And.intro hT9 (And.intro (hJn.at (hO9.2 _ hJn.lt (fun q => q hAq))) (hOn.trans hO9 (fun _ _ q => q))))
          clear cY hT9 hO9
          go_wp2_with fail
          go_ret
          exact ⟨rfl, HG.out⟩
        · have hz0 : (aE == 0) = false := by simpa using haE
          rw [if_neg haE] at HS
          have HG := hide (And.intro hTn (And.intro hJn hOn))
          clear haE hTn hJn hOn
          go_wp2_with fail
          go_ret
          exact ⟨by rw [HS.out]; rfl, by rw [HS.out]; exact HG.out⟩
end Go.Proofs.Ytfkchnjbbbhmjaa
namespace Go.Proofs.Ytfkchnjbbbhmjaa
open Go.RowKit
structure Jv.ok (j : Jv) : Prop where
  a0 : 0 ≤ j.ar
  a1 : j.ar ≤ 1
  t0 : 0 ≤ j.tu
  t1 : j.tu ≤ 1099511627776
/-- what Lay comes to: the error, the tape, the journal -/
structure LayR where
  e : Int
  M : Mt
  j : Jv
def layW (j : Jv) (r : Int × Mt) : LayR :=
  if r.1 = 0 then ⟨0, r.2, { j with ar := 1 - j.ar, tu := j.tu + 1 }⟩
  else if r.1 = 151 then if (r.2.empty (1 - j.ar)).1 = 0 then ⟨151, (r.2.empty (1 - j.ar)).2, j⟩ else ⟨(r.2.empty (1 - j.ar)).1, (r.2.empty (1 - j.ar)).2, j⟩
  else ⟨r.1, r.2, j⟩
def layM (M : Mt) (j : Jv) (rs : List Rc) : LayR :=
  if takesE (M.jon j.fs) rs = 0 then if 1099511627776 ≤ j.tu then ⟨2, M, j⟩ else layW j (writeM M (1 - j.ar) (j.tu + 1) (rs.map Rc.zs)) else ⟨takesE (M.jon j.fs) rs, M, j⟩
theorem takes_few {on : Bool} {rs : List Rc} (h : takesE on rs = 0) : ∀ r ∈ rs, r.zs.length ≤ 4194304 := by
  unfold takesE at h
  cases on
  · rw [if_neg (by simp)] at h; cases h
  · rw [if_pos rfl] at h
    split at h
    · assumption
    · cases h
theorem JAt.turned {w : World} {j : Jv} (h : JAt w j) (a t : Int) : JAt ((w.setCell ⟨j.q, 1, none⟩ (.int .i64 a)).setCell ⟨j.q, 2, none⟩ (.int .i64 t)) { j with ar := a, tu := t } := by
  have r1 := range_set h.c 1 (.int .i64 a)
  rw [Nat.zero_add] at r1
  have r2 := range_set r1 2 (.int .i64 t)
  rw [Nat.zero_add] at r2
  exact ⟨r2, there_set (there_set h.th _ _) _ _⟩
set_option maxRecDepth 100000 in
set_option maxHeartbeats 4000000 in
theorem jlay_any (j : Jv) (M : Mt) (A : Nat → Prop) (ra : Option Addr) (rc : Nat) (rs : List Rc) (w0 : World) (h : JAt w0 j) (hj : j.ok) (hT : Live A w0 j.p M) (hA : ∀ b, A b → b < w0.heap.size) (hAq : A j.q)
    (hr : RowOf Rc.cells w0 ra rs) (hl : rs.length ≤ maxLen) (hrA : rs = [] ∨ ∀ x, ra = some x → A x.block ∧ x.block ≠ j.q) (hrs : ∀ r ∈ rs, RowAt w0 r.a r.zs ∧ (r.zs = [] ∨ ∀ x, r.a = some x → A x.block)) :
    Calls Try.prog 74 #[jptr j, .slice ra rs.length rc] w0 fun e w' => e = .returned (.int .i64 (layM M j rs).e) ∧ Live A w' j.p (layM M j rs).M ∧ JAt w' (layM M j rs).j ∧ Off (fun b => b = j.q ∨ ¬ A b) w0 w' := by
  have cT := jtakes_any j M A ra rc rs w0 h hT hr hl
  have ha0 := hj.a0
  have ha1 := hj.a1
  have ht0 := hj.t0
  have ht1 := hj.t1
  have offm : ∀ {w w' : World}, Off (fun b => ¬ A b) w w' → Off (fun b => b = j.q ∨ ¬ A b) w w' := fun h => h.mono (fun _ _ q => .inr q)
  unfold layM
  unfold jptr at *
  by_cases hte : takesE (M.jon j.fs) rs = 0
  rotate_left
  · rw [if_neg hte]
    obtain ⟨te, htx⟩ : ∃ te, Hid (takesE (M.jon j.fs) rs = te) := ⟨_, hide rfl⟩
    rw [htx.out] at cT hte ⊢
    have hz0 : (te == 0) = false := by simpa using hte
    clear hte
    go_enter Try.func74, Try.ntmps74
    go_wp2_with fail
    refine cT.mono ?_
    rintro e w1 ⟨rfl, hB1⟩
    have HF := hide (And.intro (hT.below hB1) (And.intro (h.below hB1) (offm (Off.of_below (F := fun b => ¬ A b) hB1))))
    clear cT h hT
    go_wp2_with fail
    go_ret
    exact ⟨rfl, HF.out⟩
  · rw [if_pos hte]
    have hfew := takes_few hte
    rw [hte] at cT
    clear hte
    by_cases htm : 1099511627776 ≤ j.tu
    · rw [if_pos htm]
      go_enter Try.func74, Try.ntmps74
      go_wp2_with fail
      refine cT.mono ?_
      rintro e w1 ⟨rfl, hB1⟩
      have HF := hide (And.intro (hT.below hB1) (And.intro (h.below hB1) (offm (Off.of_below (F := fun b => ¬ A b) hB1))))
      have x2 := (h.below hB1).cell 2 rfl
      clear cT h hT
      go_wp2_with fail
      go_ret
      exact ⟨rfl, HF.out⟩
    · rw [if_neg htm]
      have hA1 : ∀ w1 : World, Below w0.heap.size w0 w1 → ∀ b, A b → b < w1.heap.size := fun w1 hb b hb' => Nat.lt_of_lt_of_le (hA b hb') hb.size
      have cW := fun w1 (hb : Below w0.heap.size w0 w1) => jwrite_any j M A (1 - j.ar) (j.tu + 1) ra rc rs w1 (h.below hb) (hT.below hb) (hA1 w1 hb) hAq (by omega) (hr.below hb) hl (hrA.imp id (fun q x hx => (q x hx).1)) (fun r hrm => ⟨(hrs r hrm).1.below hb, hfew r hrm, (hrs r hrm).2⟩)
      unfold jptr at cW
      obtain ⟨we, hwe⟩ : ∃ we, Hid (writeM M (1 - j.ar) (j.tu + 1) (rs.map Rc.zs) = we) := ⟨_, hide rfl⟩
      obtain ⟨wE, Mw⟩ := we
      simp only [hwe.out] at cW
      rw [hwe.out]
      clear hwe hfew
      obtain ⟨ot, hot⟩ : ∃ ot, Hid (1 - j.ar = ot) := ⟨_, hide rfl⟩
      obtain ⟨nt, hnt⟩ : ∃ nt, Hid (j.tu + 1 = nt) := ⟨_, hide rfl⟩
      have W1 : (1 : Int) - j.ar = ot := hot.out
      have W2 : j.tu + 1 = nt := hnt.out
      have LW : Hid (layW j (wE, Mw) = if wE = 0 then ⟨0, Mw, { j with ar := ot, tu := nt }⟩ else if wE = 151 then if (Mw.empty ot).1 = 0 then ⟨151, (Mw.empty ot).2, j⟩ else ⟨(Mw.empty ot).1, (Mw.empty ot).2, j⟩ else ⟨wE, Mw, j⟩) := hide (by unfold layW; rw [hot.out, hnt.out])
      rw [LW.out]
      simp only [hot.out, hnt.out] at cW
      clear LW hot hnt
      by_cases hw0 : wE = 0
      · subst hw0
        rw [if_pos rfl]
        go_enter Try.func74, Try.ntmps74
        go_wp2_with fail
        refine cT.mono ?_
        rintro e w1 ⟨rfl, hB1⟩
        clear cT
        have x1 := (h.below hB1).cell 1 rfl
        have x2 := (h.below hB1).cell 2 rfl
        go_wp2_with fail
        go_quiet (fail)
        have cW := cW (w1.drewN nq) (below_drewN hB1 _)
        go_wp2_with fail
        refine cW.mono ?_
        rintro e w3 ⟨rfl, hT3, hJ3, hO3⟩
        clear cW x1 x2
        have y1 := hJ3.cell 1 rfl
        have y2 := hJ3.cell 2 rfl
        have f1 : w3.frozen? ⟨j.q, 1, none⟩ = false := by have := (hJ3.th 1 (by omega)).2; rwa [Nat.zero_add] at this
        have f2 : w3.frozen? ⟨j.q, 2, none⟩ = false := by have := (hJ3.th 2 (by omega)).2; rwa [Nat.zero_add] at this
        have HF : Hid (Live A ((w3.setCell ⟨j.q, 1, none⟩ (.int .i64 ot)).setCell ⟨j.q, 2, none⟩ (.int .i64 nt)) j.p Mw ∧ JAt ((w3.setCell ⟨j.q, 1, none⟩ (.int .i64 ot)).setCell ⟨j.q, 2, none⟩ (.int .i64 nt)) { j with ar := ot, tu := nt } ∧ Off (fun b => b = j.q ∨ ¬ A b) w0 ((w3.setCell ⟨j.q, 1, none⟩ (.int .i64 ot)).setCell ⟨j.q, 2, none⟩ (.int .i64 nt))) := hide (by
          have o1 : Off (fun b => b = j.q) w3 ((w3.setCell ⟨j.q, 1, none⟩ (.int .i64 ot)).setCell ⟨j.q, 2, none⟩ (.int .i64 nt)) := (Off.of_setCell (F := fun b => b = j.q) w3 _ _ rfl).trans (Off.of_setCell (F := fun b => b = j.q) _ _ _ rfl) (fun _ _ q => q)
          exact ⟨hT3.off o1 (fun b q => by rw [q]; exact hAq), hJ3.turned ot nt, ((offm (Off.of_below (F := fun b => ¬ A b) (below_drewN hB1 _))).trans (offm hO3) (fun _ _ q => q)).trans (o1.mono (fun _ _ q => .inl q)) (fun _ _ q => q)⟩)
        clear hT3 hJ3 hO3 h hT
        go_wp2_with fail
        go_ret
        exact ⟨rfl, HF.out⟩
      · rw [if_neg hw0]
        have hz0 : (wE == 0) = false := by simpa using hw0
        by_cases hw1 : wE = 151
        · subst hw1
          rw [if_pos rfl]
          obtain ⟨ce, hce⟩ : ∃ ce, Hid (Mw.empty ot = ce) := ⟨_, hide rfl⟩
          obtain ⟨cE, Mc⟩ := ce
          rw [hce.out]
          by_cases hcE : cE = 0
          · subst hcE
            rw [if_pos rfl]
            clear hw0 hz0
            go_enter Try.func74, Try.ntmps74
            go_wp2_with fail
            refine cT.mono ?_
            rintro e w1 ⟨rfl, hB1⟩
            clear cT
            have x1 := (h.below hB1).cell 1 rfl
            have x2 := (h.below hB1).cell 2 rfl
            go_wp2_with fail
            go_quiet (fail)
            have cW := cW (w1.drewN nq) (below_drewN hB1 _)
            go_wp2_with fail
            refine cW.mono ?_
            rintro e w3 ⟨rfl, hT3, hJ3, hO3⟩
            clear cW x1 x2
            have y0 := hJ3.cell 0 rfl
            have hA3 : ∀ b, A b → b < w3.heap.size := fun b hb => by have := hA1 _ hB1 b hb; have := hO3.size; simp at this; omega
            have cC := live_clear hT3 hA3 ot
            rw [hce.out] at cC
            go_wp2_with fail
            refine cC.mono ?_
            rintro e w4 ⟨rfl, hT4, hO4⟩
            clear cC
            have HF := hide (And.intro hT4 (And.intro (hJ3.at (hO4.2 _ hJ3.lt (fun q => q hAq))) ((((offm (Off.of_below (F := fun b => ¬ A b) (below_drewN hB1 nq))).trans (offm hO3) (fun _ _ q => q)).trans (offm hO4) (fun _ _ q => q)))))
            clear hT4 hJ3 hO3 h hT hO4
            go_wp2_with fail
            go_ret
            exact ⟨rfl, HF.out⟩
          · rw [if_neg hcE]
            have hc0 : (cE == 0) = false := by simpa using hcE
            clear hw0 hz0 hcE
            go_enter Try.func74, Try.ntmps74
            go_wp2_with fail
            refine cT.mono ?_
            rintro e w1 ⟨rfl, hB1⟩
            clear cT
            have x1 := (h.below hB1).cell 1 rfl
            have x2 := (h.below hB1).cell 2 rfl
            go_wp2_with fail
            go_quiet (fail)
            have cW := cW (w1.drewN nq) (below_drewN hB1 _)
            go_wp2_with fail
            refine cW.mono ?_
            rintro e w3 ⟨rfl, hT3, hJ3, hO3⟩
            clear cW x1 x2
            have y0 := hJ3.cell 0 rfl
            have hA3 : ∀ b, A b → b < w3.heap.size := fun b hb => by have := hA1 _ hB1 b hb; have := hO3.size; simp at this; omega
            have cC := live_clear hT3 hA3 ot
            rw [hce.out] at cC
            go_wp2_with fail
            refine cC.mono ?_
            rintro e w4 ⟨rfl, hT4, hO4⟩
            clear cC
            have HF := hide (And.intro hT4 (And.intro (hJ3.at (hO4.2 _ hJ3.lt (fun q => q hAq))) ((((offm (Off.of_below (F := fun b => ¬ A b) (below_drewN hB1 nq))).trans (offm hO3) (fun _ _ q => q)).trans (offm hO4) (fun _ _ q => q)))))
            clear hT4 hJ3 hO3 h hT hO4
            go_wp2_with fail
            go_ret
            exact ⟨rfl, HF.out⟩
        · rw [if_neg hw1]
          have hz1 : (wE == 151) = false := by simpa using hw1
          clear hw0 hw1
          go_enter Try.func74, Try.ntmps74
          go_wp2_with fail
          refine cT.mono ?_
          rintro e w1 ⟨rfl, hB1⟩
          clear cT
          have x1 := (h.below hB1).cell 1 rfl
          have x2 := (h.below hB1).cell 2 rfl
          go_wp2_with fail
          go_quiet (fail)
          have cW := cW (w1.drewN nq) (below_drewN hB1 _)
          go_wp2_with fail
          refine cW.mono ?_
          rintro e w3 ⟨rfl, hT3, hJ3, hO3⟩
          have HF := hide (And.intro hT3 (And.intro hJ3 ((offm (Off.of_below (F := fun b => ¬ A b) (below_drewN hB1 nq))).trans (offm hO3) (fun _ _ q => q))))
          clear cW x1 x2 hT3 hJ3 hO3 h hT
          go_wp2_with fail
          go_ret
          exact ⟨rfl, HF.out⟩
end Go.Proofs.Ytfkchnjbbbhmjaa
namespace Go.Proofs.Ytfkchnjbbbhmjaa
open Go.RowKit
def Mt.sureOf (M : Mt) (area : Int) : Int := if area = 0 then (M.sa : Int) else if area = 1 then (M.sb : Int) else 0
def Mt.jbytes (M : Mt) (area : Int) : Int := if M.on then ((M.read area).length : Int) else M.sureOf area
set_option maxRecDepth 100000 in
set_option maxHeartbeats 4000000 in
theorem jbytes_any (j : Jv) (M : Mt) (A : Nat → Prop) (w : World) (h : JAt w j) (hT : Live A w j.p M) : Calls Try.prog 77 #[jptr j] w fun e w' => e = .returned (.int .i64 (M.jbytes j.ar)) ∧ Below w.heap.size w w' := by
  have cm := jmade_any j w h
  have h0 := h.cell 0 rfl
  have cO := live_on hT
  unfold jptr at *
  go_enter Try.func77, Try.ntmps77
  cases hon : M.on
  · rw [hon] at cO
    have HR : Hid (M.jbytes j.ar = M.sureOf j.ar) := hide (by unfold Mt.jbytes; rw [hon]; rfl)
    clear hon
    go_wp2_with fail
    refine cm.mono ?_
    rintro e w' ⟨rfl, hw⟩
    obtain rfl := hw.symm
    clear cm hw
    go_wp2_with fail
    refine cO.mono ?_
    rintro e w' ⟨rfl, hw⟩
    obtain rfl := hw.symm
    clear cO hw
    go_wp2_with fail
    obtain ⟨w8, hw8⟩ : ∃ w8, w.drew = w8 := ⟨_, rfl⟩
    have hB8 : Below w.heap.size w w8 := by rw [← hw8]; exact (Below.refl _ _).drew
    have k0 : ∀ w', Below w8.heap.size w8 w' → w'.cell? ⟨j.q, 0, none⟩ = some (.pointer (some ⟨j.p, 0, none⟩)) := fun w' hw => (h.below (hB8.trans (hw.mono hB8.size))).cell 0 rfl
    have k1 : ∀ w', Below w8.heap.size w8 w' → w'.cell? ⟨j.q, 1, none⟩ = some (.int .i64 j.ar) := fun w' hw => (h.below (hB8.trans (hw.mono hB8.size))).cell 1 rfl
    have cS := live_sure (hT.below hB8) j.ar
    have e0 : (if j.ar = 0 then (M.sa : Int) else if j.ar = 1 then (M.sb : Int) else 0) = M.sureOf j.ar := rfl
    rw [e0] at cS
    generalize M.sureOf j.ar = n at *
    clear hT h0 e0
    refine hs_begin (S := (Below w8.heap.size w8)) 10 rfl (by kernel_rfl) ?_
    rw [hw8]
    clear hw8
    have hS : (Below w8.heap.size w8) w8 := Below.refl _ _
    refine hs_take (i := 0) (d := some 14) (v := ?_) rfl (by kernel_rfl) (by kernel_rfl) (by kernel_rfl) (by rfl) ?_ hS rfl ?_
    rotate_left
    · intro w' hw
      go_simp
      try with_reducible rfl
    simp only [Act.put, List.setIfInBounds_toArray, List.set_cons_zero, List.set_cons_succ]
    refine hs_take (i := 1) (d := some 15) (v := ?_) rfl (by kernel_rfl) (by kernel_rfl) (by kernel_rfl) (by rfl) ?_ hS rfl ?_
    rotate_left
    · intro w' hw
      go_simp
      try with_reducible rfl
    simp only [Act.put, List.setIfInBounds_toArray, List.set_cons_zero, List.set_cons_succ]
    refine hs_take (i := 2) (d := some 16) (v := ?_) rfl (by kernel_rfl) (by kernel_rfl) (by kernel_rfl) (by rfl) ?_ hS rfl ?_
    rotate_left
    · intro w' hw
      go_simp
      try with_reducible rfl
    simp only [Act.put, List.setIfInBounds_toArray, List.set_cons_zero, List.set_cons_succ]
    refine hs_take (i := 3) (d := some 17) (v := ?_) rfl (by kernel_rfl) (by kernel_rfl) (by kernel_rfl) (by rfl) ?_ hS rfl ?_
    rotate_left
    · intro w' hw
      have := k0 w' hw
      go_simp
      try with_reducible rfl
    simp only [Act.put, List.setIfInBounds_toArray, List.set_cons_zero, List.set_cons_succ]
    refine hs_take (i := 4) (d := some 18) (v := ?_) rfl (by kernel_rfl) (by kernel_rfl) (by kernel_rfl) (by rfl) ?_ hS rfl ?_
    rotate_left
    · intro w' hw
      go_simp
      try with_reducible rfl
    simp only [Act.put, List.setIfInBounds_toArray, List.set_cons_zero, List.set_cons_succ]
    refine hs_take (i := 5) (d := some 19) (v := ?_) rfl (by kernel_rfl) (by kernel_rfl) (by kernel_rfl) (by rfl) ?_ hS rfl ?_
    rotate_left
    · intro w' hw
      go_simp
      try with_reducible rfl
    simp only [Act.put, List.setIfInBounds_toArray, List.set_cons_zero, List.set_cons_succ]
    refine hs_take (i := 6) (d := some 20) (v := ?_) rfl (by kernel_rfl) (by kernel_rfl) (by kernel_rfl) (by rfl) ?_ hS rfl ?_
    rotate_left
    · intro w' hw
      go_simp
      try with_reducible rfl
    simp only [Act.put, List.setIfInBounds_toArray, List.set_cons_zero, List.set_cons_succ]
    refine hs_take (i := 7) (d := some 21) (v := ?_) rfl (by kernel_rfl) (by kernel_rfl) (by kernel_rfl) (by rfl) ?_ hS rfl ?_
    rotate_left
    · intro w' hw
      have := k1 w' hw
      go_simp
      try with_reducible rfl
    simp only [Act.put, List.setIfInBounds_toArray, List.set_cons_zero, List.set_cons_succ]
    refine hs_call (i := 8) (d := some 22) rfl (by kernel_rfl) (by rfl) (by go_simp; first | done | exact ⟨rfl, rfl⟩ | with_reducible rfl) rfl ?_
    refine (cS).mono ?_
    rintro e' w9 ⟨rfl, hx⟩
    have hS : Below w8.heap.size w8 w9 := by rw [hx]; exact hS
    refine ⟨_, rfl, hS, ?_⟩
    simp only [Act.put, List.setIfInBounds_toArray, List.set_cons_zero, List.set_cons_succ]
    obtain rfl := hx.symm
    clear hx
    refine hs_take (i := 9) (d := some 2) (v := ?_) rfl (by kernel_rfl) (by kernel_rfl) (by kernel_rfl) (by rfl) ?_ hS rfl ?_
    rotate_left
    · intro w' hw
      go_simp
      try with_reducible rfl
    simp only [Act.put, List.setIfInBounds_toArray, List.set_cons_zero, List.set_cons_succ]
    refine hs_done (by kernel_rfl) ?_
    go_wp2
    go_ret
    rw [HR.out]
    exact ⟨rfl, hB8⟩
  · rw [hon] at cO
    have HR : Hid (M.jbytes j.ar = ((M.read j.ar).length : Int)) := hide (by unfold Mt.jbytes; rw [hon]; rfl)
    clear hon
    go_wp2_with fail
    refine cm.mono ?_
    rintro e w' ⟨rfl, hw⟩
    obtain rfl := hw.symm
    clear cm hw
    go_wp2_with fail
    refine cO.mono ?_
    rintro e w' ⟨rfl, hw⟩
    obtain rfl := hw.symm
    clear cO hw
    go_wp2_with fail
    obtain ⟨w8, hw8⟩ : ∃ w8, w.drew = w8 := ⟨_, rfl⟩
    have hB8 : Below w.heap.size w w8 := by rw [← hw8]; exact (Below.refl _ _).drew
    have k0 : ∀ w', Below w8.heap.size w8 w' → w'.cell? ⟨j.q, 0, none⟩ = some (.pointer (some ⟨j.p, 0, none⟩)) := fun w' hw => (h.below (hB8.trans (hw.mono hB8.size))).cell 0 rfl
    have k1 : ∀ w', Below w8.heap.size w8 w' → w'.cell? ⟨j.q, 1, none⟩ = some (.int .i64 j.ar) := fun w' hw => (h.below (hB8.trans (hw.mono hB8.size))).cell 1 rfl
    have cR := live_read (hT.below hB8) j.ar
    generalize M.read j.ar = zs at *
    clear hT h0
    refine hs_begin (S := (Below w8.heap.size w8)) 14 rfl (by kernel_rfl) ?_
    rw [hw8]
    clear hw8
    have hS : (Below w8.heap.size w8) w8 := Below.refl _ _
    refine hs_take (i := 0) (d := some 24) (v := ?_) rfl (by kernel_rfl) (by kernel_rfl) (by kernel_rfl) (by rfl) ?_ hS rfl ?_
    rotate_left
    · intro w' hw
      go_simp
      try with_reducible rfl
    simp only [Act.put, List.setIfInBounds_toArray, List.set_cons_zero, List.set_cons_succ]
    refine hs_take (i := 1) (d := some 25) (v := ?_) rfl (by kernel_rfl) (by kernel_rfl) (by kernel_rfl) (by rfl) ?_ hS rfl ?_
    rotate_left
    · intro w' hw
      go_simp
      try with_reducible rfl
    simp only [Act.put, List.setIfInBounds_toArray, List.set_cons_zero, List.set_cons_succ]
    refine hs_take (i := 2) (d := some 26) (v := ?_) rfl (by kernel_rfl) (by kernel_rfl) (by kernel_rfl) (by rfl) ?_ hS rfl ?_
    rotate_left
    · intro w' hw
      go_simp
      try with_reducible rfl
    simp only [Act.put, List.setIfInBounds_toArray, List.set_cons_zero, List.set_cons_succ]
    refine hs_take (i := 3) (d := some 27) (v := ?_) rfl (by kernel_rfl) (by kernel_rfl) (by kernel_rfl) (by rfl) ?_ hS rfl ?_
    rotate_left
    · intro w' hw
      have := k0 w' hw
      go_simp
      try with_reducible rfl
    simp only [Act.put, List.setIfInBounds_toArray, List.set_cons_zero, List.set_cons_succ]
    refine hs_take (i := 4) (d := some 28) (v := ?_) rfl (by kernel_rfl) (by kernel_rfl) (by kernel_rfl) (by rfl) ?_ hS rfl ?_
    rotate_left
    · intro w' hw
      go_simp
      try with_reducible rfl
    simp only [Act.put, List.setIfInBounds_toArray, List.set_cons_zero, List.set_cons_succ]
    refine hs_take (i := 5) (d := some 29) (v := ?_) rfl (by kernel_rfl) (by kernel_rfl) (by kernel_rfl) (by rfl) ?_ hS rfl ?_
    rotate_left
    · intro w' hw
      go_simp
      try with_reducible rfl
    simp only [Act.put, List.setIfInBounds_toArray, List.set_cons_zero, List.set_cons_succ]
    refine hs_take (i := 6) (d := some 30) (v := ?_) rfl (by kernel_rfl) (by kernel_rfl) (by kernel_rfl) (by rfl) ?_ hS rfl ?_
    rotate_left
    · intro w' hw
      go_simp
      try with_reducible rfl
    simp only [Act.put, List.setIfInBounds_toArray, List.set_cons_zero, List.set_cons_succ]
    refine hs_take (i := 7) (d := some 31) (v := ?_) rfl (by kernel_rfl) (by kernel_rfl) (by kernel_rfl) (by rfl) ?_ hS rfl ?_
    rotate_left
    · intro w' hw
      have := k1 w' hw
      go_simp
      try with_reducible rfl
    simp only [Act.put, List.setIfInBounds_toArray, List.set_cons_zero, List.set_cons_succ]
    refine hs_call (i := 8) (d := some 32) rfl (by kernel_rfl) (by rfl) (by go_simp; first | done | exact ⟨rfl, rfl⟩ | with_reducible rfl) rfl ?_
    refine (cR).mono ?_
    rintro e' w9 ⟨ra, rc, rfl, -, hB9, -⟩
    have hS : Below w8.heap.size w8 w9 := hB9
    refine ⟨_, rfl, hS, ?_⟩
    simp only [Act.put, List.setIfInBounds_toArray, List.set_cons_zero, List.set_cons_succ]
    refine hs_take (i := 9) (d := some 23) (v := ?_) rfl (by kernel_rfl) (by kernel_rfl) (by kernel_rfl) (by rfl) ?_ hS rfl ?_
    rotate_left
    · intro w' hw
      go_simp
      try with_reducible rfl
    simp only [Act.put, List.setIfInBounds_toArray, List.set_cons_zero, List.set_cons_succ]
    refine hs_take (i := 10) (d := some 33) (v := ?_) rfl (by kernel_rfl) (by kernel_rfl) (by kernel_rfl) (by rfl) ?_ hS rfl ?_
    rotate_left
    · intro w' hw
      go_simp
      try with_reducible rfl
    simp only [Act.put, List.setIfInBounds_toArray, List.set_cons_zero, List.set_cons_succ]
    refine hs_take (i := 11) (d := some 34) (v := ?_) rfl (by kernel_rfl) (by kernel_rfl) (by kernel_rfl) (by rfl) ?_ hS rfl ?_
    rotate_left
    · intro w' hw
      go_simp
      try with_reducible rfl
    simp only [Act.put, List.setIfInBounds_toArray, List.set_cons_zero, List.set_cons_succ]
    refine hs_take (i := 12) (d := some 3) (v := ?_) rfl (by kernel_rfl) (by kernel_rfl) (by kernel_rfl) (by rfl) ?_ hS rfl ?_
    rotate_left
    · intro w' hw
      go_simp
      try with_reducible rfl
    simp only [Act.put, List.setIfInBounds_toArray, List.set_cons_zero, List.set_cons_succ]
    refine hs_take (i := 13) (d := some 4) (v := ?_) rfl (by kernel_rfl) (by kernel_rfl) (by kernel_rfl) (by rfl) ?_ hS rfl ?_
    rotate_left
    · intro w' hw
      go_simp
      try with_reducible rfl
    simp only [Act.put, List.setIfInBounds_toArray, List.set_cons_zero, List.set_cons_succ]
    refine hs_done (by kernel_rfl) ?_
    go_wp2
    go_ret
    rw [HR.out]
    exact ⟨rfl, hB8.trans (hB9.mono hB8.size)⟩
end Go.Proofs.Ytfkchnjbbbhmjaa
namespace Go.Proofs.Ytfkchnjbbbhmjaa.Ty
open Go.RowKit
open Tal
/-- an area with a greater turn is the journal's: area, turn, records -/
def stepF (r : Int × Int × List (List Int)) (area : Int) (bs : List Int) : Int × Int × List (List Int) := if r.2.1 < turnW (framesW bs) then (area, turnW (framesW bs), recsW (framesW bs)) else r
def findK (M : Mt) : Nat → Int × Int × List (List Int)
  | 0 => (1, 0, [])
  | k + 1 => stepF (findK M k) (k : Int) (M.read (k : Int))
structure FoundOk (r : Int × Int × List (List Int)) : Prop where
  a0 : 0 ≤ r.1
  a1 : r.1 ≤ 1
  t0 : 0 ≤ r.2.1
  t1 : r.2.1 ≤ 1099511627776
theorem findK_ok {M : Mt} (h : M.ok) : ∀ k, k ≤ 2 → FoundOk (findK M k)
  | 0, _ => ⟨by simp [findK], by simp [findK], by simp [findK], by simp [findK]⟩
  | k + 1, hk => by
    have ih := findK_ok h k (by omega)
    have h1 := turnW_ge (framesW (M.read (k : Int))) (fun f hf => (frames_mem (Mt.read_ok h (k : Int)).1 f hf).2)
    unfold findK stepF
    split
    · exact ⟨by simp only; omega, by simp only; omega, by simp only; omega, by simp only; omega⟩
    · exact ih
theorem live_read2 {A : Nat → Prop} {w : World} {p : Nat} {M : Mt} (h : Live A w p M) (area : Int) :
    Calls Try.prog 19 #[.pointer (some ⟨p, 0, none⟩), .int .i64 area] w fun e w' => ∃ a cap, e = .returned (.tuple #[.slice a (M.read area).length cap, .int .i64 (M.fault area)]) ∧ RowAt w' a (M.read area) ∧ Below w.heap.size w w' ∧ (M.read area).length ≤ cap ∧ cap ≤ maxLen := by
  obtain ⟨t, rfl, h, k⟩ := h
  refine (tread_any t M area w h).mono ?_
  rintro e w' ⟨v, he, hw, hb⟩
  have hr := Mt.read_ok h.ok area
  have hm : (M.read area).length ≤ maxLen := by have := hr.2; unfold maxLen; omega
  rcases own_range hw with ⟨rfl, h0, _⟩ | ⟨g, cap, rfl, hb', hg, hn, hcm, hrr⟩
  · have e0 : M.read area = [] := List.eq_nil_of_length_eq_zero h0
    rw [e0]
    exact ⟨none, 0, he, ⟨by unfold maxLen; simp, by simp, .inl rfl⟩, hb, by simp, by unfold maxLen; omega⟩
  · exact ⟨_, cap, he, ⟨hm, hr.1, .inr ⟨g, 0, rfl, hg, hrr⟩⟩, hb, hn, hcm⟩
theorem ROwn.set {B : Nat} {w : World} {v : Value} {rs : List Rc} {q o : Nat} (h : ROwn B w v rs) (hq : q < B) (u : Value) : ROwn B (w.setCell ⟨q, o, none⟩ u) v rs := by
  have hg := gb_set w q o u
  have hv : v.ownBlock = none ∨ v.ownBlock ≠ some q := by
    cases hb : v.ownBlock with
    | none => exact .inl rfl
    | some g => right; intro e; cases e; have := (h.r.lt _ hb).1; omega
  refine ⟨h.r.kept hg hv, fun x hx => RowAt_gbo (h.rows x hx) hg (fun ad e1 e2 => ?_), h.len, fun x hx ad e => ?_⟩
  · cases e2; have := (h.off x hx ad e1).1; omega
  · exact ⟨(h.off x hx ad e).1, Nat.lt_of_lt_of_le (h.off x hx ad e).2.1 hg.size, (h.off x hx ad e).2.2⟩
theorem jat_new (w : World) (j : Jv) (h : j.q = w.heap.size) : JAt (w.alloc (.cells #[.pointer (some ⟨j.p, 0, none⟩), .int .i64 j.ar, .int .i64 j.tu, .int .i64 j.fs] 99)) j := by
  have h1 := range_new w #[.pointer (some ⟨j.p, 0, none⟩), .int .i64 j.ar, .int .i64 j.tu, .int .i64 j.fs] 99
  have h2 := there_new w #[.pointer (some ⟨j.p, 0, none⟩), .int .i64 j.ar, .int .i64 j.tu, .int .i64 j.fs] 99
  rw [← h] at h1 h2
  exact ⟨h1, h2⟩
set_option maxRecDepth 100000 in
set_option maxHeartbeats 8000000 in
theorem find_off (p : Nat) (M : Mt) (A : Nat → Prop) (w : World) (hT : Live A w p M) (hon : M.on = false) :
    Calls Try.prog 73 #[.pointer (some ⟨p, 0, none⟩)] w fun e w' => e = .returned (.tuple #[.pointer none, .slice none 0 0, .int .i64 150]) ∧ Below w.heap.size w w' := by
  have cC := live_counts hT
  have hf : M.fault 0 = 150 := by unfold Mt.fault; rw [if_pos (.inl rfl), hon]; rfl
  have HON := hide hon
  clear hon
  go_enter Try.func73, Try.ntmps73
  go_wp2_with fail
  refine cC.mono ?_
  rintro e w1 ⟨rfl, hB1⟩
  clear cC
  go_wp2_with fail
  go_loopw [8, 23] (fun _ iv wr => iv = .int .i64 0 ∧ Below w.heap.size w wr) (fun _ _ _ => 0)
  case atStart => exact ⟨rfl, hB1.alloc hB1.size _⟩
  case round =>
    obtain ⟨rfl, hB⟩ := hrel
    have cR := live_read2 (hT.below hB) 0
    rw [hf] at cR
    go_wp2_with fail
    refine cR.mono ?_
    rintro e w2 ⟨ra, rc, rfl, -, hB2, -, -⟩
    clear cR
    go_wp2
    go_ret3
    exact ⟨rfl, hB.trans (hB2.mono hB.size)⟩
set_option maxRecDepth 100000 in
set_option maxHeartbeats 8000000 in
theorem find_on (p : Nat) (M : Mt) (A : Nat → Prop) (w : World) (hT : Live A w p M) (hon : M.on = true) (hrm : M.room ≤ 100000000) :
    Calls Try.prog 73 #[.pointer (some ⟨p, 0, none⟩)] w fun e w' => (∃ q v rs, e = .returned (.tuple #[.pointer (some ⟨q, 0, none⟩), v, .int .i64 0]) ∧ JAt w' ⟨q, p, (findK M 2).1, (findK M 2).2.1, M.fa⟩ ∧ ROwn w.heap.size w' v rs ∧ rs.map Rc.zs = (findK M 2).2.2 ∧ w.heap.size ≤ q ∧ rs.length ≤ 100000000 ∧ (∀ g, v.ownBlock = some g → g ≠ q) ∧ (∀ x ∈ rs, ∀ ad, x.a = some ad → ad.block ≠ q)) ∧ Below w.heap.size w w' := by
  have hok := hT.ok
  have cC := live_counts hT
  have hf : ∀ k : Nat, k < 2 → M.fault (k : Int) = 0 := fun k hk => by
    unfold Mt.fault
    rw [if_pos (by omega), hon]
    rfl
  have hrl : ∀ k : Int, (M.read k).length ≤ 100000000 := fun k => by
    have := hok.rm
    unfold Mt.read
    split
    · cases decide (k = 1) <;> simp only [Mt.get] <;> omega
    · simp
  clear hon
  go_enter Try.func73, Try.ntmps73
  go_wp2_with fail
  refine cC.mono ?_
  rintro e w1 ⟨rfl, hB1⟩
  clear cC
  obtain ⟨q, hq⟩ : ∃ q, Hid (w1.heap.size = q) := ⟨_, hide rfl⟩
  have hqw : w.heap.size ≤ q := by rw [← hq.out]; exact hB1.size
  have hJ0 := jat_new w1 ⟨q, p, 1, 0, M.fa⟩ hq.out.symm
  have hB2 : Below w.heap.size w (w1.alloc (.cells #[.pointer (some ⟨p, 0, none⟩), .int .i64 1, .int .i64 0, .int .i64 M.fa] 99)) := hB1.alloc hB1.size _
  have hqs : q < (w1.alloc (.cells #[.pointer (some ⟨p, 0, none⟩), .int .i64 1, .int .i64 0, .int .i64 M.fa] 99)).heap.size := by rw [← hq.out]; simp
  go_wp2_with fail
  rw [hq.out]
  go_loopw [8, 23] (fun v iv wr => ∃ (k : Nat) (ar tu : Int) (rs : List Rc), k ≤ 2 ∧ iv = .int .i64 (k : Int) ∧ JAt wr ⟨q, p, ar, tu, M.fa⟩ ∧ ROwn (q + 1) wr v rs ∧ rs.length ≤ 100000000 ∧ Below w.heap.size w wr ∧ q < wr.heap.size ∧ Hid (findK M k = (ar, tu, rs.map Rc.zs))) (fun _ iv _ => 2 - (intOf iv).toNat)
  case atStart => exact ⟨0, 1, 0, [], by omega, rfl, hJ0, ROwn.nil _ _, by simp, hB2, hqs, hide rfl⟩
  case round =>
    clear hJ0 hB2 hqs
    obtain ⟨k, ar, tu, rs, hk, rfl, hJ, hW, hrn, hB, hqs, hF⟩ := hrel
    by_cases hlt : k < 2
    · have hkI : (k : Int) < 2 := by omega
      have cR := live_read2 (hT.below hB) (k : Int)
      rw [hf k hlt] at cR
      have hbl := hrl (k : Int)
      have hst : Hid (findK M (k + 1) = stepF (ar, tu, rs.map Rc.zs) (k : Int) (M.read (k : Int))) := hide (by rw [← hF.out]; rfl)
      obtain ⟨bs, hbs⟩ : ∃ bs, Hid (M.read (k : Int) = bs) := ⟨_, hide rfl⟩
      rw [hbs.out] at cR hbl hst
      go_wp2_with fail
      refine cR.mono ?_
      rintro e w2 ⟨ra, rc, rfl, hrow, hB2, hlc, hcm⟩
      clear cR
      have cN := contents_any ra rc bs w2 hrow hlc hcm hbl
      obtain ⟨tn, htn⟩ : ∃ tn, Hid (turnW (framesW bs) = tn) := ⟨_, hide rfl⟩
      rw [htn.out] at cN
      go_wp2_with fail
      refine cN.mono ?_
      rintro e w3 ⟨⟨v3, rs3, rfl, hW3, hz3, hl3⟩, hB3⟩
      clear cN
      have hB23 : Below wr.heap.size wr w3 := hB2.trans (hB3.mono hB2.size)
      have hJ3 := hJ.below hB23
      have x2 := hJ3.cell 2 rfl
      by_cases hgt : tu < tn
      · have x1 := hJ3.cell 1 rfl
        have f1 : w3.frozen? ⟨q, 1, none⟩ = false := by have := (hJ3.th 1 (by omega)).2; rwa [Nat.zero_add] at this
        have f2 : w3.frozen? ⟨q, 2, none⟩ = false := by have := (hJ3.th 2 (by omega)).2; rwa [Nat.zero_add] at this
        have hJ4 := hJ3.turned (k : Int) tn
        have hW4 := ((hW3.lower (show q + 1 ≤ w2.heap.size by have := hB2.size; omega)).set (q := q) (o := 1) (by omega) (.int .i64 (k : Int))).set (q := q) (o := 2) (by omega) (.int .i64 tn)
        have hB4 : Below w.heap.size w ((w3.setCell ⟨q, 1, none⟩ (.int .i64 (k : Int))).setCell ⟨q, 2, none⟩ (.int .i64 tn)) :=
          ((hB.trans (hB23.mono hB.size)).grown (gb_set w3 q 1 (.int .i64 (k : Int))) (Nat.le_trans hB.size hB23.size) (fun g e => by cases e; exact hqw)).grown (gb_set _ q 2 (.int .i64 tn)) (by have := hB23.size; have := hB.size; simp; omega) (fun g e => by cases e; exact hqw)
        have hq4 : q < ((w3.setCell ⟨q, 1, none⟩ (.int .i64 (k : Int))).setCell ⟨q, 2, none⟩ (.int .i64 tn)).heap.size := by have := hB23.size; simp; omega
        have hst4 : Hid (findK M (k + 1) = ((k : Int), tn, rs3.map Rc.zs)) := hide (by rw [hst.out]; unfold stepF; rw [htn.out, if_pos hgt, hz3])
        clear hW3 hJ3 hW hJ
        go_wp2
        go_roundw
        case rel => exact ⟨k + 1, (k : Int), tn, rs3, by omega, by go_num, hJ4, hW4, by omega, hB4, hq4, hst4⟩
        case measure => simp [intOf]; omega
      · have hst4 : Hid (findK M (k + 1) = (ar, tu, rs.map Rc.zs)) := hide (by rw [hst.out]; unfold stepF; rw [htn.out, if_neg hgt])
        have hW4 := hW.below hB23
        have hq4 : q < w3.heap.size := by have := hB23.size; omega
        have hB4 := hB.trans (hB23.mono hB.size)
        clear hW3 hW hJ
        go_wp2
        go_roundw
        case rel => exact ⟨k + 1, ar, tu, rs, by omega, by go_num, hJ3, hW4, hrn, hB4, hq4, hst4⟩
        case measure => simp [intOf]; omega
    · obtain rfl : k = 2 := by omega
      have e1 := hF.out
      have HJ : Hid (JAt wr ⟨q, p, (findK M 2).1, (findK M 2).2.1, M.fa⟩) := hide (by rw [e1]; exact hJ)
      have HZ : Hid (rs.map Rc.zs = (findK M 2).2.2) := hide (by rw [e1])
      clear e1 hF hJ
      go_wp2
      go_ret3
      exact ⟨⟨q, _, rs, rfl, HJ.out, hW.lower (by omega), HZ.out, hqw, hrn, fun g e => by have := (hW.r.lt g e).1; omega, fun x hx ad e => by have := (hW.off x hx ad e).1; omega⟩, hB⟩
end Go.Proofs.Ytfkchnjbbbhmjaa.Ty
