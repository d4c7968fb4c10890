/- the closure of Best -/
import Derived.Test.YtogmkcabndgllaaV20
namespace Go.Proofs.Ytogmkcabndgllaa
open Go.RowKit
/-- the best vote so far, in a closure's cells -/
structure BoxB (w : World) (Fb Bb : Nat) (o : Option Vt) : Prop where
  ne : Fb ≠ Bb
  f : w.cell? ⟨Fb, 0, none⟩ = some (.bool o.isSome)
  v : w.rangeAt Bb 0 (o.getD vt0).cells
  tf : w.there Fb 0 1
  tv : w.there Bb 0 36
  fl : Fb < w.heap.size
  vl : Bb < w.heap.size
theorem BoxB.at {w w' : World} {Fb Bb : Nat} {o : Option Vt} (h : BoxB w Fb Bb o) (hs : w.heap.size ≤ w'.heap.size) (h1 : w'.heap[Fb]? = w.heap[Fb]?) (h2 : w'.heap[Bb]? = w.heap[Bb]?) : BoxB w' Fb Bb o := by
  have e1 : ∀ j, w'.cell? ⟨Fb, j, none⟩ = w.cell? ⟨Fb, j, none⟩ := fun j => by simp [World.cell?, h1]
  have e2 : ∀ j, w'.cell? ⟨Bb, j, none⟩ = w.cell? ⟨Bb, j, none⟩ := fun j => by simp [World.cell?, h2]
  have z1 : ∀ j, w'.frozen? ⟨Fb, j, none⟩ = w.frozen? ⟨Fb, j, none⟩ := fun j => by simp [World.frozen?, h1]
  have z2 : ∀ j, w'.frozen? ⟨Bb, j, none⟩ = w.frozen? ⟨Bb, j, none⟩ := fun j => by simp [World.frozen?, h2]
  refine ⟨h.ne, (e1 0).trans h.f, range_at h.v h2, fun j hj => ?_, fun j hj => ?_, Nat.lt_of_lt_of_le h.fl hs, Nat.lt_of_lt_of_le h.vl hs⟩
  · rw [e1, z1]; exact h.tf j hj
  · rw [e2, z2]; exact h.tv j hj
theorem BoxB.below {w w' : World} {Fb Bb : Nat} {o : Option Vt} (h : BoxB w Fb Bb o) (hb : Below w.heap.size w w') : BoxB w' Fb Bb o := h.at hb.size (hb.block _ h.fl) (hb.block _ h.vl)
theorem box_put {w : World} {Fb Bb : Nat} {o : Option Vt} (h : BoxB w Fb Bb o) (v : Vt) (hv : v.ok) : BoxB ((w.setCells Bb 0 v.cells).setCell ⟨Fb, 0, none⟩ (.bool true)) Fb Bb (some v) := by
  have ht : w.there Bb 0 v.cells.length := by rw [hv.len]; exact h.tv
  have hr := World.rangeAt_setCells_same w Bb 0 v.cells ht
  obtain ⟨c, hc⟩ := Option.isSome_iff_exists.1 ((World.there_setCells h.tf Bb 0 v.cells) 0 (by omega)).1
  refine ⟨h.ne, ?_, range_other hr _ _ (fun e => absurd e h.ne), there_set (World.there_setCells h.tf _ _ _) _ _, there_set (World.there_setCells h.tv _ _ _) _ _, ?_, ?_⟩
  · exact World.cell?_setCell_same _ _ _ hc
  · simp [size_sets]; exact h.fl
  · simp [size_sets]; exact h.vl
theorem box_off {w : World} {Fb Bb : Nat} (vs : List Value) (x : Value) : Off (fun z => z = Fb ∨ z = Bb) w ((w.setCells Bb 0 vs).setCell ⟨Fb, 0, none⟩ x) := by
  refine Off.trans (F := fun z => z = Fb ∨ z = Bb) (G := fun z => z = Fb ∨ z = Bb) (w1 := w.setCells Bb 0 vs) ⟨below_sets (Nat.zero_le _) _ _ _ (Below.refl _ _), fun z _ hz => set_other _ _ _ _ _ (fun e => hz (.inr e))⟩ (Off.of_setCell _ _ _ (.inl rfl)) (fun _ _ q => q)
set_option maxRecDepth 100000 in
set_option maxHeartbeats 4000000 in
theorem consider_any (Fb Bb : Nat) (o : Option Vt) (ho : (o.getD vt0).ok) (v : Vt) (hv : v.ok) (w : World) (h : BoxB w Fb Bb o) :
    Calls Try.prog 28 #[.agg v.cells.toArray, .pointer (some ⟨Fb, 0, none⟩), .pointer (some ⟨Bb, 0, none⟩)] w fun e w' => e = .returned (.tuple #[]) ∧ BoxB w' Fb Bb (topStep o v) ∧ Off (fun z => z = Fb ∨ z = Bb) w w' := by
  have hb0 := one_box (w := w) v.cells 31
  have hu2 : v.cells.toArray.size = 36 := by simpa using hv.len
  have huo2 := all_one v.one
  have hiV : (Try.prog.info? 31).map (·.size) = some v.cells.length := by rw [hv.len]; exact iszV
  have hiV2 : (Try.prog.info? 31).map (·.size) = some v.cells.toArray.size := by rw [hu2]; exact iszV
  have HP : Hid (∀ {w' : World} {o' : Option Vt}, BoxB w' Fb Bb o' → BoxB ((w'.setCells Bb 0 v.cells).setCell ⟨Fb, 0, none⟩ (.bool true)) Fb Bb (some v)) := hide (fun hb => box_put hb v hv)
  cases o with
  | none =>
    show Calls _ _ _ _ fun e w' => e = .returned (.tuple #[]) ∧ BoxB w' Fb Bb (some v) ∧ Off (fun z => z = Fb ∨ z = Bb) w w'
    obtain ⟨u, hu⟩ : ∃ u, Hid (v.cells = u) := ⟨_, hide rfl⟩
    simp only [hu.out] at hb0 hu2 huo2 hiV hiV2 HP ⊢
    go_enter Try.func28, Try.ntmps28
    go_upto_region 1 with fail
    go_name_world w1 hw1
    rw [hw1] at hb0
    clear hw1
    obtain ⟨hB1, hR1, hsz1⟩ := hb0
    have h1 := h.below hB1
    have hf := h1.f
    have HTB := h1.tv
    have c1 := (World.there_setCells h1.tf Bb 0 u) 0 (by omega)
    obtain ⟨c1v, hc1v⟩ := Option.isSome_iff_exists.1 c1.1
    have c2 := c1.2
    rw [Nat.zero_add] at hc1v c2
    go_wp2_with (first
      | (refine wpList_load_mid rfl 31 _ rfl _ _ rfl u _ hR1 Try.underlying31 rfl hiV ?_)
      | (refine wpList_store_mid rfl 31 _ _ rfl _ 0 u.toArray rfl rfl (by rw [hu2]; exact HTB) hiV2 huo2 ?_))
    go_end0
    exact ⟨rfl, HP.out h1, (Off.of_below hB1).trans (box_off _ _) (fun _ _ q => q)⟩
  | some b0 =>
    have hb0k : b0.ok := ho
    have cA := fun w => ahead_any v b0 hv hb0k w
    have HT : Hid (topStep (some b0) v = if aheadB v b0 then some v else some b0) := hide rfl
    have hiB : (Try.prog.info? 31).map (·.size) = some b0.cells.length := by rw [hb0k.len]; exact iszV
    obtain ⟨u, hu⟩ : ∃ u, Hid (v.cells = u) := ⟨_, hide rfl⟩
    obtain ⟨ub, hub⟩ : ∃ u, Hid (b0.cells = u) := ⟨_, hide rfl⟩
    rw [HT.out]
    generalize aheadB v b0 = ab at *
    simp only [hu.out] at hb0 hu2 huo2 hiV hiV2 HP cA ⊢
    simp only [hub.out] at cA hiB
    clear HT
    go_enter Try.func28, Try.ntmps28
    go_upto_region 1 with fail
    go_name_world w1 hw1
    rw [hw1] at hb0
    clear hw1
    obtain ⟨hB1, hR1, hsz1⟩ := hb0
    have h1 := h.below hB1
    have hf := h1.f
    have hbr : w1.rangeAt Bb 0 ub := by have := h1.v; simp only [Option.getD_some] at this; rwa [hub.out] at this
    simp only [Option.isSome_some] at hf
    have cA1 := cA w1
    try simp only [Act.put]
    refine wp_region_list ?_
    refine wpList_step fun K hK => ?_
    go_simp
    refine hK _ _ ?_
    clear hK K
    refine wpList_step fun K hK => ?_
    go_simp
    refine hK _ _ ?_
    clear hK K
    refine wpList_step fun K hK => ?_
    go_simp
    refine hK _ _ ?_
    clear hK K
    refine wpList_load_g (by rfl) 31 _ rfl _ _ rfl u _ hR1 Try.underlying31 rfl hiV ?_
    refine wpList_load_g (by rfl) 31 _ rfl _ _ rfl ub _ hbr Try.underlying31 rfl hiB ?_
    go_wp2_with fail
    refine cA1.mono ?_
    rintro _ w2 ⟨rfl, hB2⟩
    have hR2 := range_below hR1 hB2 (by omega)
    have h2 := h1.below hB2
    have hB12 : Below w.heap.size w w2 := hB1.trans (hB2.mono (by omega))
    have HTB := h2.tv
    have c1 := (World.there_setCells h2.tf Bb 0 u) 0 (by omega)
    obtain ⟨c1v, hc1v⟩ := Option.isSome_iff_exists.1 c1.1
    have c2 := c1.2
    rw [Nat.zero_add] at hc1v c2
    clear h1 hf hbr cA1 cA
    cases ab
    · go_wp2_with fail
      go_end0
      exact ⟨rfl, h2, Off.of_below hB12⟩
    · go_wp2_with (first
        | (refine wpList_load_mid rfl 31 _ rfl _ _ rfl u _ hR2 Try.underlying31 rfl hiV ?_)
        | (refine wpList_store_mid rfl 31 _ _ rfl _ 0 u.toArray rfl rfl (by rw [hu2]; exact HTB) hiV2 huo2 ?_))
      go_end0
      exact ⟨rfl, HP.out h2, (Off.of_below hB12).trans (box_off _ _) (fun _ _ q => q)⟩
end Go.Proofs.Ytogmkcabndgllaa
