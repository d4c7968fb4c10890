/- quorum.Add -/
import Derived.Test.YtbfhpgneaklgoaaDoorSg2
namespace Go.Proofs.YtbfhpgneaklgoaaDoor
open Go.RowKit
theorem take_set_oneS {α : Type} (l : List α) (k : Nat) (a : α) (hk : k < l.length) : (l.set k a).take (k + 1) = l.take k ++ [a] := by
  apply List.ext_getElem?
  intro i
  rcases Nat.lt_trichotomy i k with h | h | h
  · rw [List.getElem?_take_of_lt (by omega), List.getElem?_set_ne (by omega), List.getElem?_append_left (by rw [List.length_take]; omega), List.getElem?_take_of_lt h]
  · subst h
    rw [List.getElem?_take_of_lt (by omega), List.getElem?_set_self hk, List.getElem?_append_right (by rw [List.length_take]; omega), List.length_take, Nat.min_eq_left (by omega), Nat.sub_self]
    rfl
  · rw [List.getElem?_eq_none (by rw [List.length_take]; omega), List.getElem?_eq_none (by rw [List.length_append, List.length_take]; simp; omega)]
theorem fold_setsS : ∀ (u : List Value) (k : Nat) (arr : Array Value), k + u.length = arr.size → List.foldl (fun (cs : Array Value) (x : Value × Nat) => cs.setIfInBounds x.snd x.fst) arr (u.zipIdx k) = (arr.toList.take k ++ u).toArray
  | [], k, arr, h => by
    simp only [List.length_nil, Nat.add_zero] at h
    rw [List.take_of_length_le (by simp [h])]
    simp
  | a :: u, k, arr, h => by
    simp only [List.length_cons] at h
    rw [List.zipIdx_cons, List.foldl_cons, fold_setsS u (k + 1) _ (by simp; omega)]
    congr 1
    show List.take (k + 1) (arr.setIfInBounds k a).toList ++ u = _
    rw [Array.toList_setIfInBounds, take_set_oneS _ _ _ (by simp; omega), List.append_assoc]
    rfl
theorem fold_s (arr : Array Value) (u : List Value) (h : u.length = arr.size) : List.foldl (fun (cs : Array Value) (x : Value × Nat) => cs.setIfInBounds x.snd x.fst) arr u.zipIdx = u.toArray := by
  have := fold_setsS u 0 arr (by omega)
  simpa using this
theorem one_sign (w : World) (u : List Value) (hu : u.length = 17) (h1 : ∀ x ∈ u, x.oneCell' = true) : Src Tryd.prog 17 22 (.slice (some ⟨w.heap.size, 0, none⟩) 1 1) 1 u (w.alloc (.cells u.toArray 43)) :=
  Src.ofSlice _ Tryd.underlying22 ⟨w.heap.size, 0, none⟩ 1 1 u (by omega) (fun j v hv => by
    rw [Addr.add_mid]
    have := range_new w u.toArray 43 j v (by simpa using hv)
    exact this) h1
/-- where the tail of a slice of signs lies -/
def tailA (a : Option Addr) (cap k : Nat) : Option Addr := a.map (fun x => if cap = k then x else x.add (k * 17))
theorem tail_at (a : Option Addr) (n cap k : Nat) (hk : k ≤ n) (hn : n ≤ cap) (w : World) :
    (Instr.sliceAt 22 (.slice a n cap) (some (.int .i64 (k : Int))) none none).run Tryd.prog w = .ok (.slice (tailA a cap k) (n - k) (cap - k)) w := by
  have h1 : (k : Int) ≤ n := by omega
  have h2 : (n : Int) ≤ cap := by omega
  cases a with
  | none =>
    by_cases hck : cap = k
    · subst hck
      simp [go_sem, tailA]
      intro h; omega
    · simp [go_sem, tailA]
      intro h; omega
  | some x =>
    by_cases hck : cap = k
    · subst hck
      simp [go_sem, tailA]
      intro h; omega
    · simp [go_sem, tailA, hck]
      intro h; omega
theorem sigs_tail {w : World} {a : Option Addr} {rs : List Sg} (h : SigsAt w a rs) (cap k : Nat) (hk : k ≤ rs.length) (hc : rs.length ≤ cap) : SigsAt w (tailA a cap k) (rs.drop k) := by
  by_cases hlt : k < rs.length
  · obtain ⟨b, off, rfl, _, _⟩ := h.elem k hlt
    have e : tailA (some ⟨b, off, none⟩) cap k = some ⟨b, off + k * 17, none⟩ := by
      unfold tailA
      rw [Option.map_some, if_neg (by omega), Addr.add_mid]
    rw [e]
    exact sigs_drop h k hlt
  · rw [List.drop_of_length_le (by omega)]
    exact SigsAt.none
theorem own17 {B : Nat} {w w1 w2 : World} {v : Value} {n : Nat} {xs : List Value} (hb : Below B w w1) (hB : B ≤ w1.heap.size) (ho : w1.ownsRow B 43 17 v n xs) (hg : w1.grownBy w2 v.ownBlock) : Below B w w2 :=
  hb.grown hg hB (fun k hk => (ho.lt k hk).1)
set_option maxRecDepth 100000 in
set_option maxHeartbeats 4000000 in
theorem qadd_any (a : Option Addr) (cap : Nat) (rs : List Sg) (s : Sg) (w : World) (h : SigsAt w a rs) (hc : rs.length ≤ cap) (hm : cap ≤ maxLen) (hs : s.ok) (hn : rs.length ≤ 1000) :
    Calls Tryd.prog 11 #[.slice a rs.length cap, .agg s.cells.toArray] w fun e w' => ∃ v, e = .returned v ∧ SOwn w' w.heap.size v (addS rs s) ∧ Below w.heap.size w w' := by
  obtain ⟨i1, hi1, hiz, his, hib⟩ := info_parts infoS
  unfold maxLen at hm
  have hall := h.2.1
  have hB1 : Below w.heap.size w (w.alloc (.cells s.cells.toArray 43)) := (Below.refl _ _).alloc (Nat.le_refl _) _
  have hR1 : (w.alloc (.cells s.cells.toArray 43)).rangeAt w.heap.size 0 s.cells := by simpa using range_new w s.cells.toArray 43
  have hz1 : w.heap.size < (w.alloc (.cells s.cells.toArray 43)).heap.size := by simp
  have hiq := hs.isz
  have hul := hs.length
  have hone := s.one
  have ce := fun X w0 hX h0 h1 => search_eq X s a cap rs w0 hX h0 h1
  have cg := fun X w0 hX h0 h1 => search_gt X s a cap rs w0 hX h0 h1
  have hfold := fold_s #[.int .i64 0, .int .u8 0, .int .u8 0, .int .u8 0, .int .u8 0, .int .u8 0, .int .u8 0, .int .u8 0, .int .u8 0, .int .u8 0, .int .u8 0, .int .u8 0, .int .u8 0, .int .u8 0, .int .u8 0, .int .u8 0, .int .u8 0] s.cells (by rw [hul]; rfl)
  have HA1 : Hid (idx (eqN s) rs < rs.length → addS rs s = rs) := hide (fun hh => by unfold addS; rw [if_pos ((idx_lt _ _).1 hh)])
  have HA2 : Hid (¬ idx (eqN s) rs < rs.length → addS rs s = rs.take (idx (gtN s) rs) ++ (s :: rs.drop (idx (gtN s) rs))) := hide (fun hh => by unfold addS; rw [if_neg (fun q => hh ((idx_lt _ _).2 q)), insS_take])
  have hk2 := idx_le (gtN s) rs
  obtain ⟨K1, hK1⟩ : ∃ K, Hid (idx (eqN s) rs = K) := ⟨_, hide rfl⟩
  obtain ⟨K2, hK2⟩ : ∃ K, Hid (idx (gtN s) rs = K) := ⟨_, hide rfl⟩
  simp only [hK1.out, hK2.out] at ce cg
  rw [hK2.out] at hk2
  rw [hK1.out] at HA1
  rw [hK1.out, hK2.out] at HA2
  obtain ⟨L, hLe⟩ : ∃ L, Hid (addS rs s = L) := ⟨_, hide rfl⟩
  rw [hLe.out] at HA1 HA2 ⊢
  have hcl : flatS [s] = s.cells := by simp [flatS]
  have HC := hide hcl
  clear hcl hK1 hK2 hLe
  obtain ⟨u, hu⟩ : ∃ u, Hid (s.cells = u) := ⟨_, hide rfl⟩
  rw [hu.out] at hB1 hR1 hz1 hiq hul hone hfold HC ⊢
  simp only [hu.out] at ce cg
  clear hu
  go_enter Tryd.func11, Tryd.ntmps11
  go_upto_region 1 with fail
  go_name_world w1 hw1
  rw [hw1] at hB1 hR1 hz1
  clear hw1
  obtain ⟨X, hX⟩ : ∃ X, Hid (w.heap.size = X) := ⟨_, hide rfl⟩
  rw [hX.out] at hR1 hz1 ⊢
  have h1 := h.below hB1
  go_wp2_with fail
  refine (ce X w1 hz1 hR1 h1).mono ?_
  rintro e w2 ⟨rfl, hw2⟩
  have hB2 := hB1.trans (hw2.mono hB1.size)
  have hR2 := range_below hR1 hw2 hz1
  have hz2 := Nat.lt_of_lt_of_le hz1 hw2.size
  have h2 := h.below hB2
  clear ce h1 hR1 hz1 hB1 hw2
  by_cases hk : K1 < rs.length
  · have k1 : (K1 : Int) < rs.length := by omega
    have hLr := HA1.out hk
    clear HA1 HA2 hk cg
    go_wp2_with fail
    refine (clone_any a cap rs w2 h2 (by omega)).mono ?_
    rintro e w3 ⟨v, rfl, ho, hw3⟩
    have HO := hide ho
    clear ho
    go_wp2
    go_ret
    exact ⟨_, rfl, by rw [hLr]; exact HO.out.mono hB2.size, hB2.trans (hw3.mono hB2.size)⟩
  · have k1 : ¬ (K1 : Int) < rs.length := by omega
    have HL := hide (HA2.out hk)
    clear HA1 HA2 hk
    go_wp2_with fail
    refine (cg X w2 hz2 hR2 h2).mono ?_
    rintro e w3 ⟨rfl, hw3⟩
    have hB3 := hB2.trans (hw3.mono hB2.size)
    have hR3 := range_below hR2 hw3 hz2
    have hz3 := Nat.lt_of_lt_of_le hz2 hw3.size
    have h3 := h.below hB3
    clear cg h2 hR2 hz2 hB2 hw3 k1
    go_wp2_with (first
      | refine wpList_make_own _ rfl _ _ 22 rfl w3.heap.size 43 i1 (.agg #[.int .i64 0, .int .u8 0, .int .u8 0, .int .u8 0, .int .u8 0, .int .u8 0, .int .u8 0, .int .u8 0, .int .u8 0, .int .u8 0, .int .u8 0, .int .u8 0, .int .u8 0, .int .u8 0, .int .u8 0, .int .u8 0, .int .u8 0]) 17 Tryd.underlying22 hi1 hiz his .i64 .i64 _ (rs.length + 1) rfl rfl ?d1 ?d2 ?d3 ?d4 ?_)
    case d1 => omega
    case d2 => rw [hib]; omega
    case d3 => unfold maxLen; omega
    case d4 => exact Nat.le_refl _
    intro w4 hown4 hgrow4
    have hb4 : Below w3.heap.size w3 w4 := (Below.refl _ _).grown hgrow4 (Nat.le_refl _) (fun k hk => by cases hk)
    have kI : (K2 : Int) ≤ rs.length := by omega
    have hkc : K2 ≤ cap := by omega
    have hsrcT := ((h3.below hb4).take K2).src cap
    have hltk : (rs.take K2).length = K2 := by rw [List.length_take]; omega
    rw [hltk] at hsrcT
    go_wp2_with (at_builtin; refine wpList_append_own_src _ rfl _ _ 22 22 rfl w3.heap.size 43 i1 (.agg #[.int .i64 0, .int .u8 0, .int .u8 0, .int .u8 0, .int .u8 0, .int .u8 0, .int .u8 0, .int .u8 0, .int .u8 0, .int .u8 0, .int .u8 0, .int .u8 0, .int .u8 0, .int .u8 0, .int .u8 0, .int .u8 0, .int .u8 0]) 17 24 Tryd.underlying22 hi1 hiz his hib rfl _ 0 [] rfl hown4 (.slice a K2 cap) K2 (flatS (rs.take K2)) rfl hsrcT ?c1 ?c2 ?c3 ?_)
    case c1 => unfold maxLen; omega
    case c2 => omega
    case c3 => exact hb4.size
    intro v5 w5 hown5 hgrow5
    have hb5 := own17 hb4 hb4.size hown4 hgrow5
    clear hown4 hgrow4 hgrow5 hsrcT
    have hown5 : w5.ownsRow w3.heap.size 43 17 v5 K2 (flatS (rs.take K2)) := by simpa using hown5
    have hR5 := range_below hR3 hb5 hz3
    have HO5 := hide hown5
    clear hown5
    go_upto_region 7 with fail
    try simp only [Act.put]
    refine wp_region_list ?_
    refine wpList_step fun K hK => ?_
    go_simp
    refine hK _ _ ?_
    clear hK K
    refine wpList_load_mid rfl 43 _ rfl _ _ rfl u _ hR5 Tryd.underlying43 rfl hiq ?_
    have hb6 : Below w3.heap.size w3 (w5.alloc (.cells u.toArray 43)) := hb5.alloc hb5.size _
    have hsrc6 := one_sign w5 u hul hone
    have hown6 := HO5.out.alloc (.cells u.toArray 43)
    go_wp2_with (at_builtin; refine wpList_append_own_src _ rfl _ _ 22 22 rfl w3.heap.size 43 i1 (.agg #[.int .i64 0, .int .u8 0, .int .u8 0, .int .u8 0, .int .u8 0, .int .u8 0, .int .u8 0, .int .u8 0, .int .u8 0, .int .u8 0, .int .u8 0, .int .u8 0, .int .u8 0, .int .u8 0, .int .u8 0, .int .u8 0, .int .u8 0]) 17 24 Tryd.underlying22 hi1 hiz his hib rfl _ K2 (flatS (rs.take K2)) rfl hown6 (.slice (some ⟨w5.heap.size, 0, none⟩) 1 1) 1 u rfl hsrc6 ?c1 ?c2 ?c3 ?_)
    case c1 => unfold maxLen; omega
    case c2 => omega
    case c3 => exact hb6.size
    intro v7 w7 hown7 hgrow7
    have hb7 := own17 hb6 hb6.size hown6 hgrow7
    have HO7 := hide hown7
    clear hown7 hown6 hgrow7 hsrc6 HO5 hb6 hR5
    have hsrc8 := (sigs_tail (h3.below hb7) cap K2 hk2 hc).src (cap - K2)
    have hld : (rs.drop K2).length = rs.length - K2 := by rw [List.length_drop]
    rw [hld] at hsrc8
    have HO7o := HO7.out
    have htl := fun w0 => tail_at a rs.length cap K2 hk2 hc w0
    obtain ⟨ta, hta⟩ : ∃ ta, Hid (tailA a cap K2 = ta) := ⟨_, hide rfl⟩
    rw [hta.out] at hsrc8
    simp only [hta.out] at htl
    clear hta
    go_wp2_with (at_builtin; refine wpList_append_own_src _ rfl _ _ 22 22 rfl w3.heap.size 43 i1 (.agg #[.int .i64 0, .int .u8 0, .int .u8 0, .int .u8 0, .int .u8 0, .int .u8 0, .int .u8 0, .int .u8 0, .int .u8 0, .int .u8 0, .int .u8 0, .int .u8 0, .int .u8 0, .int .u8 0, .int .u8 0, .int .u8 0, .int .u8 0]) 17 24 Tryd.underlying22 hi1 hiz his hib rfl _ (K2 + 1) (flatS (rs.take K2) ++ u) rfl HO7o (.slice ta (rs.length - K2) (cap - K2)) (rs.length - K2) (flatS (rs.drop K2)) rfl hsrc8 ?c1 ?c2 ?c3 ?_)
    case c1 => unfold maxLen; omega
    case c2 => omega
    case c3 => exact hb7.size
    intro v8 w8 hown8 hgrow8
    have hb8 := own17 hb7 hb7.size HO7.out hgrow8
    have HF : Hid (SOwn w8 w.heap.size v8 L) := hide (by
      rw [HL.out]
      refine SOwn.mono (B := w3.heap.size) ⟨?_, ?_⟩ hB3.size
      · have e1 : (rs.take K2 ++ (s :: rs.drop K2)).length = K2 + 1 + (rs.length - K2) := by simp; omega
        have e2 : flatS (rs.take K2 ++ (s :: rs.drop K2)) = flatS (rs.take K2) ++ u ++ flatS (rs.drop K2) := by
          rw [flatS_append, show s :: rs.drop K2 = [s] ++ rs.drop K2 from rfl, flatS_append, HC.out]
          simp only [List.append_assoc]
        rw [e1, e2, List.append_assoc]
        exact hown8
      · intro r hr
        rcases List.mem_append.1 hr with hr | hr
        · exact hall r (List.mem_of_mem_take hr)
        · rcases List.mem_cons.1 hr with rfl | hr
          · exact hs
          · exact hall r (List.mem_of_mem_drop hr))
    clear hown8 hgrow8
    go_wp2
    go_ret
    exact ⟨_, rfl, HF.out, hB3.trans (hb8.mono hB3.size)⟩
end Go.Proofs.YtbfhpgneaklgoaaDoor
