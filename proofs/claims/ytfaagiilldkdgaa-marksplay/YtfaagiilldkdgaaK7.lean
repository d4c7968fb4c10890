/- Signs -/
import Derived.Test.YtfaagiilldkdgaaK6
namespace Go.Proofs.Ytfaagiilldkdgaa
open Go.RowKit Go.Shelf
set_option linter.unusedVariables false
def flatS (rs : List Sg) : List Value := rs.flatMap Sg.cells
theorem flatS_length {rs : List Sg} (h : ∀ r ∈ rs, r.ok) : (flatS rs).length = rs.length * 17 := by
  induction rs with
  | nil => rfl
  | cons r rs ih =>
    have h1 := (h r (by simp)).length
    have h2 := ih (fun x hx => h x (by simp [hx]))
    simp only [flatS, List.flatMap_cons, List.length_append, List.length_cons] at *
    omega
theorem flatS_append (a b : List Sg) : flatS (a ++ b) = flatS a ++ flatS b := by simp [flatS]
theorem flatS_one (rs : List Sg) : ∀ v ∈ flatS rs, v.oneCell' = true := fun v hv => by
  obtain ⟨r, _, h⟩ := List.mem_flatMap.1 hv
  exact r.one v h
/-- a slice of signs -/
def SigsAt (w : World) (a : Option Addr) (rs : List Sg) : Prop :=
  rs.length ≤ maxLen ∧ (∀ r ∈ rs, r.ok) ∧ (rs = [] ∨ ∃ b off, a = some ⟨b, off, none⟩ ∧ b < w.heap.size ∧ w.rangeAt b off (flatS rs))
theorem SigsAt.below {w w' : World} {a : Option Addr} {rs : List Sg} (h : SigsAt w a rs) (hb : Below w.heap.size w w') : SigsAt w' a rs := by
  refine ⟨h.1, h.2.1, ?_⟩
  rcases h.2.2 with h | ⟨b, off, rfl, h1, h2⟩
  · exact Or.inl h
  · exact Or.inr ⟨b, off, rfl, Nat.lt_of_lt_of_le h1 hb.size, range_below h2 hb h1⟩
theorem flatS_split (rs : List Sg) (i : Nat) (hi : i < rs.length) : flatS rs = flatS (rs.take i) ++ rs[i].cells ++ flatS (rs.drop (i + 1)) := by
  have e : rs.take i ++ (rs[i] :: rs.drop (i + 1)) = rs := by rw [← List.drop_eq_getElem_cons hi, List.take_append_drop]
  have e2 := congrArg flatS e
  rw [← e2]
  simp only [flatS, List.flatMap_append, List.flatMap_cons, List.append_assoc]
theorem SigsAt.elem {w : World} {a : Option Addr} {rs : List Sg} (h : SigsAt w a rs) (i : Nat) (hi : i < rs.length) : ∃ b off, a = some ⟨b, off, none⟩ ∧ b < w.heap.size ∧ w.rangeAt b (off + i * 17) rs[i].cells := by
  rcases h.2.2 with h0 | ⟨b, off, rfl, h1, h2⟩
  · subst h0; simp at hi
  · refine ⟨b, off, rfl, h1, ?_⟩
    rw [flatS_split rs i hi] at h2
    have h3 := range_part h2
    rwa [flatS_length (fun r hr => h.2.1 r (List.mem_of_mem_take hr)), List.length_take, Nat.min_eq_left (by omega)] at h3
theorem SigsAt.none {w : World} {a : Option Addr} : SigsAt w a [] := ⟨by simp, by simp, .inl rfl⟩
theorem infoSg : (Try.prog.info? 57).map (fun i => (i.zero, i.size, i.bytes)) = some (some (.agg ([Value.int .i64 0] ++ v8 (List.replicate 16 0)).toArray), 17, 24) := by kernel_rfl
theorem bs_sign {u : List Value} (hu : u.length = 17) (w : World) : (Instr.buildSlice 39 1 #[(0, .agg u.toArray)]).run Try.prog w = .ok (.slice (some ⟨w.heap.size, 0, none⟩) 1 1) (w.alloc (.cells u.toArray 57)) := by
  obtain ⟨i, hi, hz, hs, hb⟩ := info_parts infoSg
  exact run_bs1 39 57 i _ u Try.underlying39 hi hz (by rw [hs, hu]) (by omega) (by omega) w
theorem one_sign (w : World) (u : List Value) (hu : u.length = 17) (h1 : ∀ x ∈ u, x.oneCell' = true) : Src Try.prog 17 39 (.slice (some ⟨w.heap.size, 0, none⟩) 1 1) 1 u (w.alloc (.cells u.toArray 57)) :=
  Src.ofSlice _ Try.underlying39 ⟨w.heap.size, 0, none⟩ 1 1 u (by omega) (fun j v hv => by
    rw [Addr.add_mid]
    have := range_new w u.toArray 57 j v (by simpa using hv)
    exact this) h1
theorem own_sigs {w : World} {B : Nat} {v : Value} {rs : List Sg} (h : w.ownsRow B 57 17 v rs.length (flatS rs)) (ho : ∀ r ∈ rs, r.ok) (hm : rs.length ≤ 1000000) :
    ∃ a cap, v = .slice a rs.length cap ∧ rs.length ≤ cap ∧ cap ≤ maxLen ∧ SigsAt w a rs ∧ ∀ x, a = some x → B ≤ x.block := by
  have hl := h.1
  have hml : rs.length ≤ maxLen := by unfold maxLen; omega
  rcases h.2 with ⟨rfl, h0⟩ | ⟨g, cap, cur, rfl, hb, hg, hn, hcm, hcs, ht⟩
  · have : rs = [] := List.eq_nil_of_length_eq_zero h0
    subst this
    exact ⟨none, 0, rfl, by simp, by simp, SigsAt.none, fun x hx => by cases hx⟩
  · refine ⟨_, cap, rfl, hn, hcm, ⟨hml, ho, .inr ⟨g, 0, rfl, (Array.getElem?_eq_some_iff.1 hg).1, fun j u hu => ?_⟩⟩, fun x hx => by cases hx; exact hb⟩
    have := h.cells (g := g) rfl j u hu
    rwa [Addr.add_mid] at this
theorem SigsAt.at {w w' : World} {a : Option Addr} {rs : List Sg} (h : SigsAt w a rs) (hs : w.heap.size ≤ w'.heap.size) (hb : ∀ x, a = some x → w'.heap[x.block]? = w.heap[x.block]?) : SigsAt w' a rs := by
  refine ⟨h.1, h.2.1, ?_⟩
  rcases h.2.2 with h | ⟨b, off, rfl, h1, h2⟩
  · exact Or.inl h
  · exact Or.inr ⟨b, off, rfl, Nat.lt_of_lt_of_le h1 hs, range_at h2 (hb _ rfl)⟩
/-- signs of the first nodes whose mark is that one -/
def sgs (m : Int → Option Mk) (e : Int) (d : List Int) : Nat → List Sg
  | 0 => []
  | k + 1 => sgs m e d k ++ (match m k with | none => [] | some x => if x.e = e ∧ x.d = d then [⟨k, x.t⟩] else [])
theorem sgs_len (m : Int → Option Mk) (e : Int) (d : List Int) : ∀ k, (sgs m e d k).length ≤ k
  | 0 => by simp [sgs]
  | k + 1 => by
    have := sgs_len m e d k
    unfold sgs
    split
    · simp; omega
    · split <;> simp <;> omega
theorem sgs_ok {w : World} {B b n : Nat} {N : Int} {m : Int → Option Mk} (h : MkAt w B b n N m) (e : Int) (d : List Int) : ∀ k, k ≤ 64 → ∀ r ∈ sgs m e d k, r.ok
  | 0, _ => by simp [sgs]
  | k + 1, hk => fun r hr => by
    unfold sgs at hr
    rcases List.mem_append.1 hr with hr | hr
    · exact sgs_ok h e d k (by omega) r hr
    · split at hr
      · simp at hr
      · rename_i x hm
        split at hr
        · obtain rfl := List.mem_singleton.1 hr
          have := (h.ok k x hm).1
          exact ⟨this.tl, this.tb, by unfold I64; constructor <;> simp <;> omega⟩
        · simp at hr
def JS (w : World) (D L C R : Nat) (m : Int → Option Mk) (e : Int) (d : List Int) (k : Nat) (W : World) : Prop :=
  (∃ v, Boxed W L 39 v ∧ W.ownsRow R 57 17 v (sgs m e d k).length (flatS (sgs m e d k))) ∧ W.rangeAt C 0 (mkC e d) ∧ Below D w W ∧ R ≤ W.heap.size ∧ k ≤ 64
theorem JS.below {w W W' : World} {D L C R : Nat} {m : Int → Option Mk} {e : Int} {d : List Int} {k : Nat} (h : JS w D L C R m e d k W) (hC : C < R) (hD : D < R) (hb : Below W.heap.size W W') : JS w D L C R m e d k W' := by
  obtain ⟨⟨v, h1, h2⟩, h3, h4, h5, h6⟩ := h
  exact ⟨⟨v, boxed_below h1 hb, ownsRow_below h2 hb⟩, range_below h3 hb (by omega), h4.trans (hb.mono (by omega)), Nat.le_trans h5 hb.size, h6⟩
set_option maxRecDepth 100000 in
set_option maxHeartbeats 2000000 in
theorem signs1_no (w : World) (D L C R : Nat) (hDL : D < L) (hLC : L < C) (hCR : C < R) (m : Int → Option Mk) (e : Int) (d : List Int) (hd : d.length = 32) (k : Nat) (hk : k < 64) (x : Mk) (hx : x.ok) (hm : m k = some x) (hq : ¬ (x.e = e ∧ x.d = d)) (W : World) (h : JS w D L C R m e d k W) : Calls Try.prog 24 #[.int .i64 (k : Int), .agg x.cells.toArray, .pointer (some ⟨C, 0, none⟩), .pointer (some ⟨L, 0, none⟩)] W fun e' W' => e' = .returned (.tuple #[]) ∧ JS w D L C R m e d (k + 1) W' := by
  have hen : sgs m e d (k + 1) = sgs m e d k := by rw [sgs, hm]; simp only; rw [if_neg hq, List.append_nil]
  obtain ⟨⟨v, hb, hrow⟩, hrC, hbl, hR, -⟩ := h
  have hel := sgs_len m e d k
  have hLW := hb.lt
  have hcmp := fun w' => eqM x.e e x.d d hx.dl hd w'
  obtain ⟨xe, xd, xt⟩ := x
  simp only at *
  obtain ⟨y, hy⟩ : ∃ u, Hid (mkC xe xd = u) := ⟨_, hide rfl⟩
  obtain ⟨t, ht⟩ : ∃ u, Hid (v8 xt = u) := ⟨_, hide rfl⟩
  obtain ⟨c, hc⟩ : ∃ u, Hid (mkC e d = u) := ⟨_, hide rfl⟩
  have hy33 : y.length = 33 := by rw [← hy.out]; exact mkC_len _ hx.dl
  have ht16 : t.length = 16 := by rw [← ht.out, v8_length]; exact hx.tl
  have hc33 : c.length = 33 := by rw [← hc.out]; exact mkC_len _ hd
  have hiy : (Try.prog.info? 59).map (·.size) = some y.length := by rw [hy33]; exact iszM
  have hic : (Try.prog.info? 59).map (·.size) = some c.length := by rw [hc33]; exact iszM
  have hit : (Try.prog.info? 31).map (·.size) = some t.length := by rw [ht16]; exact iszT
  simp only [hy.out, hc.out] at hcmp
  unfold Mk.cells JS
  simp only [hy.out, ht.out, hc.out] at hrC ⊢
  have hcb : ((xe == e) && (xd == d)) = false := by simpa using hq
  simp only [hcb] at hcmp
  rw [hen]
  clear hq hcb hen hm
  go_enter Try.func24, Try.ntmps24
  go_upto_region 1 with fail
  have hB1 : Below W.heap.size W (W.alloc (.cells (y ++ t).toArray 61)) := (Below.refl _ _).alloc (Nat.le_refl _) _
  have b1 := boxed_below hb hB1
  have o1 := ownsRow_below hrow hB1
  have hC1 := range_below hrC hB1 (by omega)
  have hZ : (W.alloc (.cells (y ++ t).toArray 61)).rangeAt W.heap.size 0 (y ++ t) := by simpa using range_new W (y ++ t).toArray 61
  generalize W.alloc (.cells (y ++ t).toArray 61) = W1 at *
  have hs1 := hB1.size
  have hZm := range_left hZ
  have hZt := range_right hZ
  rw [hy33, Nat.zero_add] at hZt
  try simp only [Act.put]
  refine pl_begin ?_
  refine pl_take (d := some 6) (v := ?_) (by rfl) ?_ rfl ?_
  rotate_left
  · go_simp
    try with_reducible rfl
  simp only [Act.put, List.setIfInBounds_toArray, List.set_cons_zero, List.set_cons_succ]
  refine pl_take (d := some 7) (v := .agg y.toArray) (by rfl) (ex_mid rfl rfl hZm Try.underlying59 rfl hiy) rfl ?_
  simp only [Act.put, List.setIfInBounds_toArray, List.set_cons_zero, List.set_cons_succ]
  refine pl_take (d := some 8) (v := .agg c.toArray) (by rfl) (ex_mid rfl rfl hC1 Try.underlying59 rfl hic) rfl ?_
  simp only [Act.put, List.setIfInBounds_toArray, List.set_cons_zero, List.set_cons_succ]
  refine pl_take (d := some 9) (v := .bool false) (by rfl) (ex_bin rfl rfl rfl (by kernel_rfl) (hcmp W1)) rfl ?_
  simp only [Act.put, List.setIfInBounds_toArray, List.set_cons_zero, List.set_cons_succ]
  refine pl_nil ?_
  go_wp2_with fail
  go_end0
  exact ⟨rfl, ⟨v, b1, o1⟩, hC1, hbl.trans (hB1.mono (by omega)), by omega, by omega⟩
set_option maxRecDepth 100000 in
set_option maxHeartbeats 2000000 in
theorem signs1_yes (w : World) (D L C R : Nat) (hDL : D < L) (hLC : L < C) (hCR : C < R) (m : Int → Option Mk) (e : Int) (d : List Int) (hd : d.length = 32) (k : Nat) (hk : k < 64) (x : Mk) (hx : x.ok) (hm : m k = some x) (hq : x.e = e ∧ x.d = d) (W : World) (h : JS w D L C R m e d k W) : Calls Try.prog 24 #[.int .i64 (k : Int), .agg x.cells.toArray, .pointer (some ⟨C, 0, none⟩), .pointer (some ⟨L, 0, none⟩)] W fun e' W' => e' = .returned (.tuple #[]) ∧ JS w D L C R m e d (k + 1) W' := by
  have hen : sgs m e d (k + 1) = sgs m e d k ++ [⟨k, x.t⟩] := by rw [sgs, hm]; simp only; rw [if_pos hq]
  have hgc : (Sg.mk (k : Int) x.t).cells = Value.int .i64 (k : Int) :: v8 x.t := rfl
  obtain ⟨⟨v, hb, hrow⟩, hrC, hbl, hR, -⟩ := h
  have hel := sgs_len m e d k
  have hLW := hb.lt
  have hcmp := fun w' => eqM x.e e x.d d hx.dl hd w'
  obtain ⟨xe, xd, xt⟩ := x
  simp only at *
  obtain ⟨y, hy⟩ : ∃ u, Hid (mkC xe xd = u) := ⟨_, hide rfl⟩
  obtain ⟨t, ht⟩ : ∃ u, Hid (v8 xt = u) := ⟨_, hide rfl⟩
  obtain ⟨c, hc⟩ : ∃ u, Hid (mkC e d = u) := ⟨_, hide rfl⟩
  have hy33 : y.length = 33 := by rw [← hy.out]; exact mkC_len _ hx.dl
  have ht16 : t.length = 16 := by rw [← ht.out, v8_length]; exact hx.tl
  have hc33 : c.length = 33 := by rw [← hc.out]; exact mkC_len _ hd
  have hiy : (Try.prog.info? 59).map (·.size) = some y.length := by rw [hy33]; exact iszM
  have hic : (Try.prog.info? 59).map (·.size) = some c.length := by rw [hc33]; exact iszM
  have hit : (Try.prog.info? 31).map (·.size) = some t.length := by rw [ht16]; exact iszT
  simp only [hy.out, hc.out] at hcmp
  unfold Mk.cells JS
  simp only [hy.out, ht.out, hc.out] at hrC ⊢
  have hcb : ((xe == e) && (xd == d)) = true := by simpa using hq
  simp only [hcb] at hcmp
  rw [hen, flatS_append, show flatS [(⟨k, xt⟩ : Sg)] = (Sg.mk (k : Int) xt).cells by simp [flatS]]
  obtain ⟨g, hg⟩ : ∃ u, Hid ((Sg.mk (k : Int) xt).cells = u) := ⟨_, hide rfl⟩
  have hg17 : g.length = 17 := by rw [← hg.out, hgc, ht.out, List.length_cons, ht16]
  have hg1 : ∀ v ∈ g, v.oneCell' = true := by rw [← hg.out]; exact Sg.one _
  have hbg : ∀ w', (Instr.build 57 #[(0, .int .i64 (k : Int)), (1, .agg t.toArray)]).run Try.prog w' = .ok (.agg g.toArray) w' := fun w' => by rw [← hg.out, hgc, ht.out]; exact build_sign _ t ht16 w'
  rw [hg.out]
  generalize sgs m e d k = rs at *
  clear hq hcb hen hm hgc hg
  go_enter Try.func24, Try.ntmps24
  go_upto_region 1 with fail
  have hB1 : Below W.heap.size W (W.alloc (.cells (y ++ t).toArray 61)) := (Below.refl _ _).alloc (Nat.le_refl _) _
  have b1 := boxed_below hb hB1
  have o1 := ownsRow_below hrow hB1
  have hC1 := range_below hrC hB1 (by omega)
  have hZ : (W.alloc (.cells (y ++ t).toArray 61)).rangeAt W.heap.size 0 (y ++ t) := by simpa using range_new W (y ++ t).toArray 61
  generalize W.alloc (.cells (y ++ t).toArray 61) = W1 at *
  have hs1 := hB1.size
  have hZm := range_left hZ
  have hZt := range_right hZ
  rw [hy33, Nat.zero_add] at hZt
  obtain ⟨i0, hi, hz, hs, hby⟩ := info_parts infoSg
  have hb2 : Below W1.heap.size W1 (W1.alloc (.cells g.toArray 57)) := (Below.refl _ _).alloc (Nat.le_refl _) _
  obtain ⟨v', w5, hrun, hown', hgr, -⟩ := run_append_own_src2 (P := Try.prog) (W1.alloc (.cells g.toArray 57)) R 39 39 39 57 i0 _ 17 24 Try.underlying39 hi hz hs hby rfl v rs.length (flatS rs) (ownsRow_below o1 hb2) _ 1 g (one_sign W1 g hg17 hg1) (by unfold maxLen; omega) (by omega) (by simp; omega)
  obtain ⟨a1, a2, a3, -, a5⟩ := appended_box (v' := v') b1 (by decide) o1 (by omega) (by omega) hown' hgr
  have hCk := appended_keeps (v' := v') o1 hgr hCR (show C ≠ L by omega) (by omega)
  obtain ⟨av, cv, rfl⟩ := ownsRow_slice hown'
  have hvc : (Value.slice av (rs.length + 1) cv).cells = #[.slice av (rs.length + 1) cv] := rfl
  have hv1 : (Value.slice av (rs.length + 1) cv).oneCell' = true := rfl
  try simp only [Act.put]
  refine pl_begin ?_
  refine pl_take (d := some 6) (v := ?_) (by rfl) ?_ rfl ?_
  rotate_left
  · go_simp
    try with_reducible rfl
  simp only [Act.put, List.setIfInBounds_toArray, List.set_cons_zero, List.set_cons_succ]
  refine pl_take (d := some 7) (v := .agg y.toArray) (by rfl) (ex_mid rfl rfl hZm Try.underlying59 rfl hiy) rfl ?_
  simp only [Act.put, List.setIfInBounds_toArray, List.set_cons_zero, List.set_cons_succ]
  refine pl_take (d := some 8) (v := .agg c.toArray) (by rfl) (ex_mid rfl rfl hC1 Try.underlying59 rfl hic) rfl ?_
  simp only [Act.put, List.setIfInBounds_toArray, List.set_cons_zero, List.set_cons_succ]
  refine pl_take (d := some 9) (v := .bool true) (by rfl) (ex_bin rfl rfl rfl (by kernel_rfl) (hcmp W1)) rfl ?_
  simp only [Act.put, List.setIfInBounds_toArray, List.set_cons_zero, List.set_cons_succ]
  refine pl_nil ?_
  go_upto_region 2 with fail
  try simp only [Act.put]
  refine pl_begin ?_
  refine pl_take (d := some 10) (v := v) (by rfl) (pl_one rfl rfl b1.cell Try.underlying39 rfl) rfl ?_
  simp only [Act.put, List.setIfInBounds_toArray, List.set_cons_zero, List.set_cons_succ]
  refine pl_take (d := some 11) (v := ?_) (by rfl) ?_ rfl ?_
  rotate_left
  · go_simp
    try with_reducible rfl
  simp only [Act.put, List.setIfInBounds_toArray, List.set_cons_zero, List.set_cons_succ]
  refine pl_take (d := some 12) (v := ?_) (by rfl) ?_ rfl ?_
  rotate_left
  · go_simp
    try with_reducible rfl
  simp only [Act.put, List.setIfInBounds_toArray, List.set_cons_zero, List.set_cons_succ]
  refine pl_take (d := some 13) (v := .agg t.toArray) (by rfl) (ex_mid rfl rfl hZt Try.underlying31 rfl hit) rfl ?_
  simp only [Act.put, List.setIfInBounds_toArray, List.set_cons_zero, List.set_cons_succ]
  refine pl_take (d := some 14) (v := .agg g.toArray) (by rfl) (ex_build rfl rfl (hbg W1)) rfl ?_
  simp only [Act.put, List.setIfInBounds_toArray, List.set_cons_zero, List.set_cons_succ]
  refine pl_run (d := some 15) (v := .slice (some ⟨W1.heap.size, 0, none⟩) 1 1) (w' := W1.alloc (.cells g.toArray 57)) (by rfl) (exec_bs1 rfl rfl (bs_sign hg17 _)) rfl ?_
  simp only [Act.put, List.setIfInBounds_toArray, List.set_cons_zero, List.set_cons_succ]
  refine pl_run (d := some 16) (v := (.slice av (rs.length + 1) cv)) (w' := w5) (by rfl) (exec_append1 rfl rfl rfl hrun) rfl ?_
  simp only [Act.put, List.setIfInBounds_toArray, List.set_cons_zero, List.set_cons_succ]
  refine pl_store (w' := w5.setCells L 0 [.slice av (rs.length + 1) cv]) (by rfl) (ex_put1 rfl rfl rfl (Boxed.there1 a1) (by decide) iszSs hvc hv1) rfl ?_
  refine pl_nil ?_
  go_wp2_with fail
  go_end0
  rw [sets_one]
  have hs5 := a5.size
  refine ⟨rfl, ⟨_, a2, ?_⟩, range_at hC1 hCk, hbl.trans ((hB1.mono (by omega)).trans (a5.mono (by omega))), by omega, by omega⟩
  simpa using a3
set_option maxHeartbeats 400000 in
theorem clip_any (a : Option Addr) (n c : Nat) (hn : n ≤ c) (hc : c ≤ maxLen) (w : World) : Calls Try.prog 25 #[.slice a n c] w fun e w' => e = .returned (.slice a n n) ∧ w' = w := by
  go_enter Try.func25, Try.ntmps25
  go_wp2
  go_ret
  exact ⟨rfl, rfl⟩
end Go.Proofs.Ytfaagiilldkdgaa
