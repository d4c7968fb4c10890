/- tape: bytes are put behind an area's; what is done to an area -/
import Derived.Test.YtfkchnjbbbhmjaaT5
namespace Go.Proofs.Ytfkchnjbbbhmjaa
open Go.RowKit
set_option maxRecDepth 100000 in
set_option maxHeartbeats 2000000 in
theorem put_any (p o n : Nat) (v : Value) (xs : List Value) (a : Option Addr) (cap : Nat) (zs : List Int) (w : World) (ho : w.ownsRow 0 5 1 v n xs) (hz : RowAt w a zs) (hn : n + zs.length ≤ 1073741824) (hc : w.cell? ⟨p, o, none⟩ = some v) (hf : w.frozen? ⟨p, o, none⟩ = false) (hp : v.ownBlock ≠ some p) :
    Calls Try.prog 45 #[.pointer (some ⟨p, o, none⟩), .slice a zs.length cap] w fun e w' => e = .returned (.tuple #[]) ∧ ∃ v' w1, w1.ownsRow 0 5 1 v' (n + zs.length) (xs ++ v8 zs) ∧ w.grownBy w1 v.ownBlock ∧ (∀ g, v'.ownBlock = some g → v.ownBlock = some g ∨ g = w.heap.size) ∧ w' = w1.setCell ⟨p, o, none⟩ v' := by
  obtain ⟨i1, hi1, hiz, his, hib⟩ := info_parts info8
  have hsrc := hz.src cap
  have hpl : p < w.heap.size := World.block_lt_of_cell? w _ hc
  obtain ⟨va, vc, hva⟩ := owns_slice ho
  subst hva
  go_enter Try.func45, Try.ntmps45
  go_wp2_with (at_builtin; refine wpList_append_own_src2 _ rfl _ _ 29 29 rfl 0 5 i1 (.int .u8 0) 1 1 Try.underlying29 hi1 hiz his hib rfl _ n xs rfl ho (.slice a zs.length cap) zs.length (v8 zs) rfl hsrc ?c1 ?c2 ?c3 ?_)
  case c1 => unfold maxLen; omega
  case c2 => omega
  case c3 => omega
  intro v2 w2 hown2 hgrow2 hap2
  have hb : w2.heap[p]? = w.heap[p]? := hgrow2.block p hpl (fun e => hp e.symm)
  have hc2 := cell_at hc hb
  have hf2 : w2.frozen? ⟨p, o, none⟩ = false := by rw [← hf]; simp [World.frozen?, hb]
  obtain ⟨va2, vc2, hva2⟩ := owns_slice hown2
  subst hva2
  clear hc hf ho hsrc hz
  go_wp2_with fail
  go_end0
  exact ⟨rfl, _, w2, hown2, hgrow2, hap2, rfl⟩
/-- where an area lies in a tape -/
def offA (k : Bool) : Nat := match k with | false => 3 | true => 5
def areaP (t : Tv) (k : Bool) : Value := .pointer (some ⟨t.p, offA k, none⟩)
def Tv.v (t : Tv) (k : Bool) : Value := match k with | false => t.va | true => t.vb
theorem TapeAt.ck {w : World} {t : Tv} {M : Mt} (h : TapeAt w t M) (k : Bool) : w.cell? ⟨t.p, offA k, none⟩ = some (t.v k) := by
  cases k
  · exact h.c3
  · exact h.c5
theorem TapeAt.sk {w : World} {t : Tv} {M : Mt} (h : TapeAt w t M) (k : Bool) : w.cell? ⟨t.p, offA k + 1, none⟩ = some (.int .i64 (M.sr k : Int)) := by
  cases k
  · exact h.c4
  · exact h.c6
theorem TapeAt.fk {w : World} {t : Tv} {M : Mt} (h : TapeAt w t M) (k : Bool) : w.frozen? ⟨t.p, offA k, none⟩ = false ∧ w.frozen? ⟨t.p, offA k + 1, none⟩ = false := by
  cases k
  · exact ⟨h.fz 3 (by omega), h.fz 4 (by omega)⟩
  · exact ⟨h.fz 5 (by omega), h.fz 6 (by omega)⟩
theorem TapeAt.ok' {w : World} {t : Tv} {M : Mt} (h : TapeAt w t M) (k : Bool) : w.ownsRow 0 5 1 (t.v k) (M.get k).length (v8 (M.get k)) := by
  cases k
  · exact h.oa
  · exact h.ob
theorem TapeAt.np {w : World} {t : Tv} {M : Mt} (h : TapeAt w t M) (k : Bool) : (t.v k).ownBlock ≠ some t.p := by
  cases k
  · exact fun q => (h.ap _ q).1 rfl
  · exact fun q => h.bp _ q rfl
theorem settle_turned {w w' : World} {t : Tv} {M : Mt} (h : TapeAt w t M) (k : Bool) (hw : w' = w.setCell ⟨t.p, offA k + 1, none⟩ (.int .i64 ((M.get k).length : Int))) : Turned w w' t (M.settle k) := by
  subst hw
  cases k
  · exact Turned.of_cells h ((CellsAt.start h).set 4 _) rfl h.oa h.ob (.inr rfl) (.inr rfl) h.px (h.ok.settle false)
  · exact Turned.of_cells h ((CellsAt.start h).set 6 _) rfl h.oa h.ob (.inr rfl) (.inr rfl) h.px (h.ok.settle true)
theorem empty_turned {w w' : World} {t : Tv} {M : Mt} (h : TapeAt w t M) (k : Bool) (hw : w' = (w.setCell ⟨t.p, offA k, none⟩ (.slice none 0 0)).setCell ⟨t.p, offA k + 1, none⟩ (.int .i64 0)) : Turned w w' t (M.clear k) := by
  subst hw
  cases k
  · exact Turned.of_cells (t' := { t with va := .slice none 0 0 }) h (((CellsAt.start h).set 3 _).set 4 _) rfl (World.ownsRow_nil _ _ _ _) h.ob (.inl rfl) (.inr rfl) h.px (h.ok.clear false)
  · exact Turned.of_cells (t' := { t with vb := .slice none 0 0 }) h (((CellsAt.start h).set 5 _).set 6 _) rfl h.oa (World.ownsRow_nil _ _ _ _) (.inr rfl) (.inl rfl) h.px (h.ok.clear true)
theorem put_turned {w w1 w' : World} {t : Tv} {M : Mt} (h : TapeAt w t M) (k : Bool) (zs : List Int) (hok : (Mt.put zs k M).ok) {v' : Value} (ho : w1.ownsRow 0 5 1 v' ((M.get k).length + zs.length) (v8 (M.get k) ++ v8 zs)) (hg : w.grownBy w1 (t.v k).ownBlock)
    (hap : ∀ g, v'.ownBlock = some g → (t.v k).ownBlock = some g ∨ g = w.heap.size) (hw : w' = w1.setCell ⟨t.p, offA k, none⟩ v') : Turned w w' t (Mt.put zs k M) := by
  subst hw
  have hpl := h.mono_x
  have hb : ∀ b, b < w.heap.size → (t.v k).ownBlock ≠ some b → w1.heap[b]? = w.heap[b]? := fun b h1 h2 => hg.block b h1 (fun e => h2 e.symm)
  have hp := hb t.p hpl (h.np k)
  have ho' : w1.ownsRow 0 5 1 v' (M.get k ++ zs).length (v8 (M.get k ++ zs)) := by rw [v8_append, List.length_append]; exact ho
  have hO : Off t.own w (w1.setCell ⟨t.p, offA k, none⟩ v') := (Off.of_grown (F := t.own) hg (fun g q => by cases k; exact .inr (.inl q); exact .inr (.inr q))).trans (Off.of_setCell (F := t.own) w1 _ _ (.inl rfl)) (fun _ _ q => q)
  have hC : CellsAt w1 w1 t.p (tcells t M) := ⟨Off.refl _ _, range_at h.r hp, there_at h.th hp⟩
  have hlt : ∀ g, v'.ownBlock = some g → g ≠ t.p := fun g q e => by
    rcases hap g q with q1 | q1
    · exact h.np k (e ▸ q1)
    · omega
  cases k
  · refine ⟨{ t with va := v' }, rfl, TapeAt.of_cells (hC.set 3 v') ho' (owns_at h.ob (fun g q => hb g (owns_lt h.ob q) (fun e => (h.ap g e).2 q))) (fun g q => ⟨hlt g q, fun e => ?_⟩) h.bp h.px hok, hO, ?_⟩
    · rcases hap g q with q1 | q1
      · exact (h.ap g q1).2 e
      · have := owns_lt h.ob e; omega
    · rintro b (q | q | q)
      · exact .inl (.inl q)
      · rcases hap b q with q1 | q1
        · exact .inl (.inr (.inl q1))
        · exact .inr (by omega)
      · exact .inl (.inr (.inr q))
  · refine ⟨{ t with vb := v' }, rfl, TapeAt.of_cells (hC.set 5 v') (owns_at h.oa (fun g q => hb g (owns_lt h.oa q) (fun e => (h.ap g q).2 e))) ho' (fun g q => ⟨(h.ap g q).1, fun e => ?_⟩) hlt h.px hok, hO, ?_⟩
    · rcases hap g e with q1 | q1
      · exact (h.ap g q).2 q1
      · have := owns_lt h.oa q; omega
    · rintro b (q | q | q)
      · exact .inl (.inl q)
      · exact .inl (.inr (.inl q))
      · rcases hap b q with q1 | q1
        · exact .inl (.inr (.inr q1))
        · exact .inr (by omega)
set_option maxRecDepth 100000 in
set_option maxHeartbeats 2000000 in
theorem sync1_any (t : Tv) (M : Mt) (k : Bool) (w : World) (h : TapeAt w t M) :
    Calls Try.prog 46 #[areaP t k] w fun e w' => e = .returned (.tuple #[]) ∧ Turned w w' t (M.settle k) := by
  obtain ⟨a, cap, hv⟩ := owns_slice (h.ok' k)
  have hc := h.ck k
  rw [hv] at hc
  have c1 := settle_any t.p (offA k) a _ cap _ w hc (h.sk k) (h.fk k).2
  have HT := hide (settle_turned h k rfl)
  clear h hc hv
  unfold areaP
  generalize offA k = o at *
  go_enter Try.func46, Try.ntmps46
  go_wp2_with fail
  refine c1.mono ?_
  rintro e w' ⟨rfl, rfl⟩
  clear c1
  go_wp2_with fail
  go_end0
  exact ⟨rfl, HT.out⟩
set_option maxRecDepth 100000 in
set_option maxHeartbeats 2000000 in
theorem clear1_any (t : Tv) (M : Mt) (k : Bool) (w : World) (h : TapeAt w t M) :
    Calls Try.prog 48 #[areaP t k] w fun e w' => e = .returned (.tuple #[]) ∧ Turned w w' t (M.clear k) := by
  have c1 := empty_any t.p (offA k) _ _ w (h.ck k) (h.fk k).1 (h.sk k) (h.fk k).2
  have HT := hide (empty_turned h k rfl)
  clear h
  unfold areaP
  generalize offA k = o at *
  go_enter Try.func48, Try.ntmps48
  go_wp2_with fail
  refine c1.mono ?_
  rintro e w' ⟨rfl, rfl⟩
  clear c1
  go_wp2_with fail
  go_end0
  exact ⟨rfl, HT.out⟩
set_option maxRecDepth 100000 in
set_option maxHeartbeats 2000000 in
theorem app1_any (t : Tv) (M : Mt) (k : Bool) (X : Nat) (a : Option Addr) (cap : Nat) (zs : List Int) (w : World) (h : TapeAt w t M) (hX : w.cell? ⟨X, 0, none⟩ = some (.slice a zs.length cap)) (hXo : ¬ t.own X) (hz : RowAt w a zs) (hok : (Mt.put zs k M).ok) :
    Calls Try.prog 44 #[areaP t k, .pointer (some ⟨X, 0, none⟩)] w fun e w' => e = .returned (.tuple #[]) ∧ Turned w w' t (Mt.put zs k M) := by
  have hXl : X < w.heap.size := World.block_lt_of_cell? w _ hX
  have hl : (M.get k).length + zs.length ≤ 1073741824 := by
    have h1 := hok.rm
    have h2 := hok.rl
    cases k
    · simp only [Mt.put, Mt.setA, Mt.get, List.length_append] at *; omega
    · simp only [Mt.put, Mt.setA, Mt.get, List.length_append] at *; omega
  have c1 := fun w0 (hb : Below w.heap.size w w0) => put_any t.p (offA k) _ _ _ a cap zs w0 ((h.below hb).ok' k) (hz.below hb) hl ((h.below hb).ck k) ((h.below hb).fk k).1 (h.np k)
  have HT : Hid (∀ w0, Below w.heap.size w w0 → ∀ (v' : Value) (w1 : World), w1.ownsRow 0 5 1 v' ((M.get k).length + zs.length) (v8 (M.get k) ++ v8 zs) → w0.grownBy w1 (t.v k).ownBlock → (∀ g, v'.ownBlock = some g → (t.v k).ownBlock = some g ∨ g = w0.heap.size) → Turned w (w1.setCell ⟨t.p, offA k, none⟩ v') t (Mt.put zs k M)) :=
    hide (fun w0 hb v' w1 k1 k2 k3 => by
      obtain ⟨t', e1, e2, e3, e4⟩ := put_turned (h.below hb) k zs hok k1 k2 k3 rfl
      refine ⟨t', e1, e2, (Off.of_below hb).trans e3 (fun _ _ q => q), fun b q => ?_⟩
      rcases e4 b q with q1 | q1
      · exact .inl q1
      · right; have := hb.size; omega)
  clear h hz hok hl
  unfold areaP
  generalize offA k = o at *
  go_enter Try.func44, Try.ntmps44
  go_wp2_with fail
  obtain ⟨w8, hw8⟩ : ∃ w8, w.drew = w8 := ⟨_, rfl⟩
  have B8 : Below w.heap.size w w8 := by rw [← hw8]; exact (Below.refl _ _).drew
  have q1 : w8.cell? ⟨X, 0, none⟩ = some (.slice a zs.length cap) := by rw [← hw8]; exact hX
  refine hs_begin (S := fun w' : World => w'.cell? ⟨X, 0, none⟩ = some (.slice a zs.length cap)) 5 rfl (by kernel_rfl) ?_
  rw [hw8]
  clear hw8
  have hS : (fun w' : World => w'.cell? ⟨X, 0, none⟩ = some (.slice a zs.length cap)) w8 := q1
  refine hs_take (i := 0) (d := some 3) (v := ?_) rfl (by kernel_rfl) (by kernel_rfl) (by kernel_rfl) (by rfl) ?_ hS rfl ?_
  rotate_left
  · intro w' hw
    go_simp
    try with_reducible rfl
  simp only [Act.put, List.setIfInBounds_toArray, List.set_cons_zero, List.set_cons_succ]
  refine hs_take (i := 1) (d := some 4) (v := ?_) rfl (by kernel_rfl) (by kernel_rfl) (by kernel_rfl) (by rfl) ?_ hS rfl ?_
  rotate_left
  · intro w' hw
    go_simp
    try with_reducible rfl
  simp only [Act.put, List.setIfInBounds_toArray, List.set_cons_zero, List.set_cons_succ]
  refine hs_take (i := 2) (d := some 5) (v := ?_) rfl (by kernel_rfl) (by kernel_rfl) (by kernel_rfl) (by rfl) ?_ hS rfl ?_
  rotate_left
  · intro w' hw
    go_simp
    try with_reducible rfl
  simp only [Act.put, List.setIfInBounds_toArray, List.set_cons_zero, List.set_cons_succ]
  refine hs_take (i := 3) (d := some 6) (v := ?_) rfl (by kernel_rfl) (by kernel_rfl) (by kernel_rfl) (by rfl) ?_ hS rfl ?_
  rotate_left
  · intro w' hw
    have hc : w'.cell? ⟨X, 0, none⟩ = some (.slice a zs.length cap) := hw
    go_simp
    try with_reducible rfl
  simp only [Act.put, List.setIfInBounds_toArray, List.set_cons_zero, List.set_cons_succ]
  refine hs_call (i := 4) (d := some 7) rfl (by kernel_rfl) (by rfl) (by go_simp; first | done | exact ⟨rfl, rfl⟩ | with_reducible rfl) rfl ?_
  refine (c1 w8 B8).mono ?_
  rintro e' w9 ⟨rfl, v', w1, k1, k2, k3, rfl⟩
  have HU := hide (HT.out w8 B8 v' w1 k1 k2 k3)
  refine ⟨_, rfl, ?_, ?_⟩
  · obtain ⟨t', -, -, e3, -⟩ := HU.out
    exact cell_at hX (e3.2 X hXl hXo)
  simp only [Act.put, List.setIfInBounds_toArray, List.set_cons_zero, List.set_cons_succ]
  refine hs_done (by kernel_rfl) ?_
  clear HT k1 k2 k3 c1 hS
  go_wp2_with fail
  go_end0
  exact ⟨rfl, HU.out⟩
end Go.Proofs.Ytfkchnjbbbhmjaa
