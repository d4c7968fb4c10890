/- batch.met: the pairs that were met: has, add batch.Twice, the document's Twice batch.Good, the document's Good -/
import Derived.Test.YtinpbnkmpplkiaaDoorJBa
import Derived.Maps.OwnSet
import Derived.DeepKeys4
import Derived.Test.YtinpbnkmpplkiaaDoorRq11
namespace Go.Proofs.YtinpbnkmpplkiaaDoor
open Go.RowKit
open Sha Tal
theorem lawP : Maps.Keyed Tryd.prog 103 := Maps.Keyed.of_law (deep_law_laid laidOut (m := 5) (by decide) (of_decide_eq_true (by kernel_rfl)) (by kernel_rfl) (by kernel_rfl))
theorem zeroU (w : World) : (zeroValue 100).run Tryd.prog w = .ok (.agg #[]) w := by kernel_rfl
def klP (c n : Int) : Lit := .string (keyBytes [.int .i64 c, .int .i64 n])
theorem lits_int (d : Nat) (c : Int) (hc : -9223372036854775808 ≤ c ∧ c ≤ 9223372036854775807) : Tryd.prog.keyLits (d + 1) 3 [.int .i64 c] = some [.int .i64 c] := by
  have wc : (Lit.int .i64 c).wf = true := by simp only [Lit.wf, Bool.and_eq_true, decide_eq_true_eq]; exact hc
  simp only [Program.keyLits, Tryd.underlying3, wc, and_self, if_true]
theorem lits_pair (d : Nat) (c n : Int) (hc : -9223372036854775808 ≤ c ∧ c ≤ 9223372036854775807) (hn : -9223372036854775808 ≤ n ∧ n ≤ 9223372036854775807) : Tryd.prog.keyLits (d + 1 + 1) 103 [.int .i64 c, .int .i64 n] = some [.int .i64 c, .int .i64 n] := by
  have hc2 : Tryd.prog.cellsOf 103 = 2 := by kernel_rfl
  have hc1 : Tryd.prog.cellsOf 3 = 1 := by kernel_rfl
  have h1 := lits_int d c hc
  have h2 := lits_int d n hn
  unfold Program.keyLits
  simp only [Tryd.underlying103]
  rw [if_pos ⟨by rw [hc2]; rfl, by decide +kernel⟩]
  simp only [List.mapM_cons, List.mapM_nil, hc1, List.drop_zero, List.take_succ_cons, List.take_zero, List.drop_succ_cons, h1, h2, Option.bind_eq_bind, Option.bind_some, Option.pure_def, Option.map_some, List.flatten_cons, List.flatten_nil, List.append_nil, List.cons_append, List.nil_append]
theorem key_pair (c n : Int) (hc : -9223372036854775808 ≤ c ∧ c ≤ 9223372036854775807) (hn : -9223372036854775808 ≤ n ∧ n ≤ 9223372036854775807) : Go.keyOf Tryd.prog 103 (.agg #[.int .i64 c, .int .i64 n]) = some (klP c n) := by
  have hsz : Tryd.prog.types.size + 1 = 159 + 1 + 1 := by kernel_rfl
  have hk : Tryd.prog.keyType 103 = true := by kernel_rfl
  have hc2 : Tryd.prog.cellsOf 103 = 2 := by kernel_rfl
  have hf : (Value.agg #[.int .i64 c, .int .i64 n]).formed Tryd.prog 103 = true := by
    simp only [Value.formed, Tryd.underlying103, hc2]
    rfl
  unfold Go.keyOf
  rw [Tryd.underlying103]
  simp only [hk, hf, Bool.and_self, if_true, hsz, Value.cells]
  rw [lits_pair 159 c n hc hn]
  rfl
def pk (r : Rq) : Int × Int := (r.c, r.n)
def MetAt (w : World) (b m : Nat) (ps : List (Int × Int)) : Prop :=
  ∃ D : DataW Unit, w.ownsMap Tryd.prog 103 unitElem b m D ∧ ∀ c n : Int, (-9223372036854775808 ≤ c ∧ c ≤ 9223372036854775807) → (-9223372036854775808 ≤ n ∧ n ≤ 9223372036854775807) → Maps.has D (klP c n) = decide ((c, n) ∈ ps)
theorem MetAt.lt {w : World} {b m : Nat} {ps : List (Int × Int)} (h : MetAt w b m ps) : b < w.heap.size := by
  obtain ⟨D, h, _⟩ := h
  exact h.lt
theorem MetAt.below {w w' : World} {b m : Nat} {ps : List (Int × Int)} (h : MetAt w b m ps) (hb : Below w.heap.size w w') : MetAt w' b m ps := by
  have hl := h.lt
  obtain ⟨D, ⟨es, cl, h1, h2⟩, h3⟩ := h
  exact ⟨D, ⟨es, cl, by rw [hb.block b hl]; exact h1, h2⟩, h3⟩
theorem MetAt.made (w : World) : MetAt (w.alloc (.map #[] 0)) w.heap.size 0 [] :=
  ⟨_, World.ownsMap_made w Tryd.prog 103 unitElem, fun c n _ _ => by simp [Maps.has]⟩
theorem has_nil (kl : Lit) : Maps.has (H := Unit) (.map []) kl = false := rfl
set_option maxRecDepth 100000 in
set_option maxHeartbeats 2000000 in
theorem has_any (b m : Nat) (ps : List (Int × Int)) (r : Rq) (w : World) (h : MetAt w b m ps) (hr : r.ok) :
    Calls Tryd.prog 38 #[.map (some b), .agg r.cells.toArray] w fun e w' => e = .returned (.bool (decide (pk r ∈ ps))) ∧ Below w.heap.size w w' := by
  have hB1 : Below w.heap.size w (w.alloc (.cells r.cells.toArray 60)) := (Below.refl _ _).alloc (Nat.le_refl _) _
  have hR1 : (w.alloc (.cells r.cells.toArray 60)).rangeAt w.heap.size 0 r.cells := by simpa using range_new w r.cells.toArray 60
  obtain ⟨d0, d1, _⟩ := reqL_0 hR1
  obtain ⟨D, hown, hD⟩ := h.below hB1
  have hkey := key_pair r.c r.n ⟨hr.cl, hr.ch⟩ ⟨hr.nl, hr.nh⟩
  have hh := hD r.c r.n ⟨hr.cl, hr.ch⟩ ⟨hr.nl, hr.nh⟩
  obtain ⟨B, hB⟩ : ∃ B, Hid (decide (pk r ∈ ps) = B) := ⟨_, hide rfl⟩
  rw [show decide ((r.c, r.n) ∈ ps) = B from hB.out] at hh
  rw [hB.out]
  obtain ⟨kl, hkl⟩ : ∃ kl, Hid (klP r.c r.n = kl) := ⟨_, hide rfl⟩
  rw [hkl.out] at hh hkey
  clear hkl hB hD hR1
  obtain ⟨q, hq⟩ : ∃ q, Hid (r.cells = q) := ⟨_, hide rfl⟩
  rw [hq.out] at hB1 d0 d1 hown ⊢
  clear hq h hr
  have hz := zeroU
  go_enter Tryd.func38, Tryd.ntmps38
  go_upto_region 1 with fail
  go_name_world w1 hw1
  rw [hw1] at hB1 d0 d1 hown
  clear hw1
  go_wp2_with (first
    | (at_lookup; refine wpList_lookup_own_unit _ rfl _ _ 70 rfl 103 100 lawP Tryd.underlying70 (zeroU _) b m D rfl hown _ kl rfl hkey ?_; rw [hh]))
  go_ret
  exact ⟨rfl, hB1.alloc hB1.size _⟩
set_option maxRecDepth 100000 in
set_option maxHeartbeats 2000000 in
theorem addP_any (b m : Nat) (ps : List (Int × Int)) (r : Rq) (w : World) (h : MetAt w b m ps) (hm : m < 1000000) (hr : r.ok) :
    Calls Tryd.prog 39 #[.map (some b), .agg r.cells.toArray] w fun e w' => e = .returned (.tuple #[]) ∧ MetAt w' b (m + 1) (pk r :: ps) ∧ w.grownBy w' (some b) := by
  have hB1 : Below w.heap.size w (w.alloc (.cells r.cells.toArray 60)) := (Below.refl _ _).alloc (Nat.le_refl _) _
  have hR1 : (w.alloc (.cells r.cells.toArray 60)).rangeAt w.heap.size 0 r.cells := by simpa using range_new w r.cells.toArray 60
  obtain ⟨d0, d1, _⟩ := reqL_0 hR1
  have hg0 : w.grownBy (w.alloc (.cells r.cells.toArray 60)) (some b) := World.grownBy_alloc w _ _
  obtain ⟨D, hown, hD⟩ := h.below hB1
  have hkey := key_pair r.c r.n ⟨hr.cl, hr.ch⟩ ⟨hr.nl, hr.nh⟩
  have HN : Hid (∀ c n : Int, (-9223372036854775808 ≤ c ∧ c ≤ 9223372036854775807) → (-9223372036854775808 ≤ n ∧ n ≤ 9223372036854775807) → Maps.has (D.put (klP r.c r.n) (.agg [])) (klP c n) = decide ((c, n) ∈ pk r :: ps)) := hide (fun c n hc hn => by
    by_cases he : c = r.c ∧ n = r.n
    · obtain ⟨rfl, rfl⟩ := he
      rw [Maps.has_put_same hown.isMap (lawP.key hkey)]
      simp [pk]
    · have hne : klP c n ≠ klP r.c r.n := fun hk => he (by
        have h1 := key_pair c n hc hn
        rw [hk] at h1
        have h2 := lawP.inj h1 hkey
        simpa using h2)
      rw [Maps.has_put_other hne, hD c n hc hn]
      have h3 : (c, n) ≠ pk r := fun h4 => he (by simpa [pk] using h4)
      simp [h3])
  obtain ⟨kl, hkl⟩ : ∃ kl, Hid (klP r.c r.n = kl) := ⟨_, hide rfl⟩
  rw [hkl.out] at hkey HN
  obtain ⟨pr, hpr⟩ : ∃ pr, Hid (pk r = pr) := ⟨_, hide rfl⟩
  rw [hpr.out] at HN ⊢
  clear hkl hpr hD hR1
  obtain ⟨q, hq⟩ : ∃ q, Hid (r.cells = q) := ⟨_, hide rfl⟩
  rw [hq.out] at hB1 d0 d1 hown hg0 ⊢
  clear hq h hr
  go_enter Tryd.func39, Tryd.ntmps39
  go_upto_region 1 with fail
  go_name_world w1 hw1
  rw [hw1] at hB1 d0 d1 hown hg0
  clear hw1
  go_wp2_with (first
    | (at_mapUpdate; refine wpList_mapUpdate_in _ rfl _ _ _ 70 rfl 103 100 lawP Tryd.underlying70 (unitElem (H := Unit)) b m D rfl hown (by unfold maxLen; omega) _ _ kl rfl rfl hkey (.agg []) [] unitElem_mk ?_; intro w2 hown2 hturn2))
  go_end0
  exact ⟨rfl, ⟨_, hown2, HN.out⟩, gb_trans hg0 hturn2.grown⟩
end Go.Proofs.YtinpbnkmpplkiaaDoor
namespace Go.Proofs.YtinpbnkmpplkiaaDoor
open Go.RowKit
open Sha Tal
def dupB (rs : List Rq) (i : Nat) : Bool := match rs[i]? with | some r => decide (pk r ∈ (rs.take i).map pk) | none => false
theorem dupB_at {rs : List Rq} {i : Nat} (h : i < rs.length) : dupB rs i = decide (pk rs[i] ∈ (rs.take i).map pk) := by
  unfold dupB
  rw [List.getElem?_eq_getElem h]
theorem dupB_iff {rs : List Rq} {i : Nat} (h : i < rs.length) : dupB rs i = true ↔ ∃ j, ∃ hj : j < i, pk (rs[j]'(by omega)) = pk rs[i] := by
  rw [dupB_at h, decide_eq_true_eq]
  constructor
  · intro hm
    obtain ⟨x, hx, he⟩ := List.mem_map.1 hm
    obtain ⟨j, hj, rfl⟩ := List.mem_iff_getElem.1 hx
    rw [List.length_take] at hj
    exact ⟨j, by omega, by rw [← he]; simp⟩
  · rintro ⟨j, hj, he⟩
    rw [← he]
    exact List.mem_map.2 ⟨_, List.mem_iff_getElem.2 ⟨j, by rw [List.length_take]; omega, by simp⟩, rfl⟩
def TwiceIs (rs : List Rq) (z : Int) : Prop := (z = -1 ∧ ∀ i, i < rs.length → dupB rs i = false) ∨ ∃ i : Nat, z = i ∧ i < rs.length ∧ dupB rs i = true ∧ ∀ j, j < i → dupB rs j = false
theorem TwiceIs.one {rs : List Rq} {z z' : Int} (h : TwiceIs rs z) (h' : TwiceIs rs z') : z = z' := by
  rcases h with ⟨rfl, h1⟩ | ⟨i, rfl, hi, h1, h2⟩ <;> rcases h' with ⟨rfl, h1'⟩ | ⟨i', rfl, hi', h1', h2'⟩
  · rfl
  · rw [h1 i' hi'] at h1'; cases h1'
  · rw [h1' i hi] at h1; cases h1
  · rcases Nat.lt_trichotomy i i' with h | h | h
    · rw [h2' i h] at h1; cases h1
    · rw [h]
    · rw [h2 i' h] at h1'; cases h1'
set_option maxRecDepth 100000 in
set_option maxHeartbeats 2000000 in
theorem twice_any (a : Option Addr) (cap : Nat) (rs : List Rq) (w : World) (h : ReqsAt w a rs) (hn : rs.length ≤ 200) :
    Calls Tryd.prog 14 #[.slice a rs.length cap] w fun e w' => ∃ z : Int, e = .returned (.int .i64 z) ∧ TwiceIs rs z ∧ Below w.heap.size w w' := by
  have hall := h.2.1
  have hmm := @run_makeMap Tryd.prog
  have hB1 : Below w.heap.size w (w.alloc (.map #[] 0)) := (Below.refl _ _).alloc (Nat.le_refl _) _
  have hm1 := MetAt.made w
  go_enter Tryd.func14, Tryd.ntmps14
  go_wp2
  go_loopw [9] (fun iv wr => ∃ (k : Nat) (ps : List (Int × Int)), k ≤ rs.length ∧ iv = .int .i64 (k : Int) ∧ Hid (MetAt wr w.heap.size k ps) ∧ Hid (∀ x, x ∈ ps ↔ x ∈ (rs.take k).map pk) ∧ Hid (∀ j, j < k → dupB rs j = false) ∧ Below w.heap.size w wr) (fun iv _ => rs.length - (intOf iv).toNat)
  case atStart => exact ⟨0, [], by omega, rfl, hide hm1, hide (by simp), hide (fun j hj => absurd hj (by omega)), hB1⟩
  case round =>
    obtain ⟨k, ps, hk, rfl, HM, HP, HD, hB⟩ := hrel
    by_cases hlt : k < rs.length
    · have k1 : (k : Int) < rs.length := by omega
      have hrow := h.below hB
      obtain ⟨b, off, rfl, hb, hre⟩ := hrow.elem k hlt
      obtain ⟨r, hr⟩ : ∃ r, Hid (rs[k] = r) := ⟨_, hide rfl⟩
      have hok : r.ok := by rw [← hr.out]; exact hall _ (List.getElem_mem hlt)
      rw [hr.out] at hre
      have HU : Hid (dupB rs k = decide (pk r ∈ ps)) := hide (by
        rw [dupB_at hlt, hr.out]
        exact decide_eq_decide.2 (HP.out _).symm)
      have HP' : Hid (∀ x, x ∈ pk r :: ps ↔ x ∈ (rs.take (k + 1)).map pk) := hide (fun x => by
        rw [List.take_succ_eq_append_getElem hlt, hr.out, List.map_append, List.mem_append, List.mem_cons, HP.out x]
        simp only [List.map_cons, List.map_nil, List.mem_singleton]
        exact or_comm)
      clear hr hrow HP
      have hiq := hok.isz
      have hiA := hok.iszA
      have hN := hok.blank wr
      have h1c := all_oneCell_toArray r.one
      have ch := fun w0 h0 => has_any w.heap.size k ps r w0 h0 hok
      have ca := fun w0 h0 => addP_any w.heap.size k ps r w0 h0 (by omega) hok
      have F := fresh_store wr #[.int .i64 0, .int .i64 0, .string ⟨#[]⟩, .int .u8 0, .int .u8 0, .int .u8 0, .int .u8 0, .int .u8 0, .int .u8 0, .int .u8 0, .int .u8 0, .int .u8 0, .int .u8 0, .int .u8 0, .int .u8 0, .int .u8 0, .int .u8 0, .int .u8 0, .int .u8 0] 60 r.cells (by rw [hok.length]; rfl)
      obtain ⟨q, hq⟩ : ∃ q, Hid (r.cells = q) := ⟨_, hide rfl⟩
      rw [hq.out] at hre hiq hiA hN h1c F
      simp only [hq.out] at ch ca
      clear hq hok
      go_upto_region 4 with fail
      try simp only [Act.put]
      refine wp_region_list ?_
      refine wpList_step fun K hK => ?_
      go_simp
      refine hK _ _ ?_
      clear hK K
      refine wpList_step fun K hK => ?_
      go_simp
      refine hK _ _ ?_
      clear hK K
      refine wpList_load_mid rfl 60 _ rfl _ _ rfl q _ hre Tryd.underlying60 rfl hiq ?_
      go_upto_region 5 with (refine wpList_store_mid (op := ⟨none, .store 60 (.tmp 5) (.tmp 13), _, _, _, none⟩) rfl 60 _ _ rfl _ _ q.toArray rfl rfl hN hiA h1c ?_)
      go_name_world w3 hw3
      rw [show (wr.alloc (.cells #[.int .i64 0, .int .i64 0, .string ⟨#[]⟩, .int .u8 0, .int .u8 0, .int .u8 0, .int .u8 0, .int .u8 0, .int .u8 0, .int .u8 0, .int .u8 0, .int .u8 0, .int .u8 0, .int .u8 0, .int .u8 0, .int .u8 0, .int .u8 0, .int .u8 0, .int .u8 0] 60)).setCells wr.heap.size 0 q = w3 from hw3] at F
      clear hw3 hN
      obtain ⟨hR3, hF3, hz3, _⟩ := F
      have hB3 := hB.trans (hF3.mono hB.size)
      have HM3 := hide (HM.out.below hF3)
      have hX3 : wr.heap.size < w3.heap.size := by omega
      clear HM hF3 hre hz3
      obtain ⟨X, hX⟩ : ∃ X, Hid (wr.heap.size = X) := ⟨_, hide rfl⟩
      rw [hX.out] at hR3 hX3 ⊢
      clear hX
      try simp only [Act.put]
      refine wp_region_list ?_
      refine wpList_step fun K hK => ?_
      go_simp
      refine hK _ _ ?_
      clear hK K
      refine wpList_load_mid rfl 60 _ rfl _ _ rfl q _ hR3 Tryd.underlying60 rfl hiq ?_
      go_wp2_with fail
      refine (ch w3 HM3.out).mono ?_
      rintro e w4 ⟨rfl, hw4⟩
      have hB4 := hB3.trans (hw4.mono hB3.size)
      have HM4 := hide (HM3.out.below hw4)
      have hR4 := range_below hR3 hw4 hX3
      clear HM3 hR3 ch
      by_cases hd : pk r ∈ ps
      · have hdt : decide (pk r ∈ ps) = true := decide_eq_true hd
        rw [hdt]
        have HZ : Hid (TwiceIs rs (k : Int)) := hide (Or.inr ⟨k, rfl, hlt, by rw [HU.out, hdt], HD.out⟩)
        clear hd hdt HU HP' HD
        go_wp2
        go_ret
        exact ⟨_, rfl, HZ.out, hB4⟩
      · have hdt : decide (pk r ∈ ps) = false := decide_eq_false hd
        rw [hdt]
        have HD' : Hid (∀ j, j < k + 1 → dupB rs j = false) := hide (fun j hj => by
          by_cases e : j = k
          · rw [e, HU.out, hdt]
          · exact HD.out j (by omega))
        clear hd hdt HU HD
        go_upto_region 7 with fail
        try simp only [Act.put]
        refine wp_region_list ?_
        refine wpList_step fun K hK => ?_
        go_simp
        refine hK _ _ ?_
        clear hK K
        refine wpList_load_mid rfl 60 _ rfl _ _ rfl q _ hR4 Tryd.underlying60 rfl hiq ?_
        go_wp2_with fail
        refine (ca w4 HM4.out).mono ?_
        rintro e w5 ⟨rfl, m5, hw5⟩
        have hB5 : Below w.heap.size w w5 := hB4.grown hw5 hB4.size (fun j hj => by cases hj; exact Nat.le_refl _)
        have HM5 := hide m5
        clear m5 ca
        go_wp2
        go_roundw
        case rel => exact ⟨k + 1, _, by omega, by go_num, HM5, HP', HD', hB5⟩
        case measure => simp [intOf]; omega
    · have HZ : Hid (TwiceIs rs (-1)) := hide (Or.inl ⟨rfl, fun i hi => HD.out i (by omega)⟩)
      have k1 : ¬ (k : Int) < rs.length := by omega
      clear HD HP HM
      go_wp2
      go_ret
      exact ⟨_, rfl, HZ.out, hB⟩
set_option maxRecDepth 100000 in
set_option maxHeartbeats 2000000 in
theorem refTwice_any (a : Option Addr) (cap : Nat) (rs : List Rq) (w : World) (h : ReqsAt w a rs) :
    Calls Tryd.prog 15 #[.slice a rs.length cap] w fun e w' => ∃ z : Int, e = .returned (.int .i64 z) ∧ TwiceIs rs z ∧ Below w.heap.size w w' := by
  have hml := h.1
  unfold maxLen at hml
  go_enter Tryd.func15, Tryd.ntmps15
  go_wp2
  go_loopw [3] (fun iv wr => ∃ (k : Nat), k ≤ rs.length ∧ iv = .int .i64 (k : Int) ∧ Hid (∀ j, j < k → dupB rs j = false) ∧ Below w.heap.size w wr) (fun iv _ => rs.length - (intOf iv).toNat)
  case atStart => exact ⟨0, by omega, rfl, hide (fun j hj => absurd hj (by omega)), Below.refl _ _⟩
  case round =>
    obtain ⟨k, hk, rfl, HD, hB⟩ := hrel
    obtain ⟨wo, rfl⟩ : ∃ wo, wo = wr := ⟨_, rfl⟩
    by_cases hlt : k < rs.length
    · have k1 : (k : Int) < rs.length := by omega
      obtain ⟨b, off, rfl, hb, hre⟩ := h.elem k hlt
      obtain ⟨c, hc⟩ : ∃ c, Hid (rs[k].c = c) := ⟨_, hide rfl⟩
      obtain ⟨n, hn⟩ : ∃ n, Hid (rs[k].n = n) := ⟨_, hide rfl⟩
      have e0 : w.cell? ⟨b, off + k * 19, none⟩ = some (.int .i64 c) := by rw [← hc.out]; exact hre 0 _ rfl
      have e1 : w.cell? ⟨b, off + k * 19 + 1, none⟩ = some (.int .i64 n) := by rw [← hn.out]; exact hre 1 _ rfl
      clear hre
      go_wp2
      go_loopw [4] (fun jv wq => ∃ j : Nat, j ≤ k ∧ jv = .int .i64 (j : Int) ∧ Hid (∀ i, (hi : i < j) → pk (rs[i]?.getD default) ≠ (c, n)) ∧ Below w.heap.size w wq) (fun jv _ => k - (intOf jv).toNat)
      case atStart => exact ⟨0, by omega, rfl, hide (fun i hi => absurd hi (by omega)), hB⟩
      case round =>
        obtain ⟨j, hj, rfl, HM, hbq⟩ := hrel
        clear hB
        by_cases hjl : j < k
        · have j1 : (j : Int) < k := by omega
          have hjr : j < rs.length := by omega
          have j2 : (j : Int) < rs.length := by omega
          obtain ⟨b', off', hbe, hb', hre'⟩ := h.elem j hjr
          obtain ⟨rfl, rfl⟩ : b = b' ∧ off = off' := by simpa using hbe
          obtain ⟨c', hc'⟩ : ∃ c, Hid (rs[j].c = c) := ⟨_, hide rfl⟩
          obtain ⟨n', hn'⟩ : ∃ n, Hid (rs[j].n = n) := ⟨_, hide rfl⟩
          have f0 : w.cell? ⟨b, off + j * 19, none⟩ = some (.int .i64 c') := by rw [← hc'.out]; exact hre' 0 _ rfl
          have f1 : w.cell? ⟨b, off + j * 19 + 1, none⟩ = some (.int .i64 n') := by rw [← hn'.out]; exact hre' 1 _ rfl
          have HE : Hid (pk (rs[j]?.getD default) = (c', n')) := hide (by rw [List.getElem?_eq_getElem hjr, ← hc'.out, ← hn'.out]; rfl)
          have HG : Hid (c' = c → n' = n → dupB rs k = true) := hide (fun g1 g2 => (dupB_iff hlt).2 ⟨j, hjl, by
            show (rs[j].c, rs[j].n) = (rs[k].c, rs[k].n)
            rw [hc'.out, hn'.out, hc.out, hn.out, g1, g2]⟩)
          clear hre' hbe hb' hc' hn'
          by_cases hcc : c = c'
          · by_cases hnn : n = n'
            · have HZ : Hid (TwiceIs rs (k : Int)) := hide (Or.inr ⟨k, rfl, hlt, HG.out hcc.symm hnn.symm, HD.out⟩)
              have hb1 : (c == c') = true := by simpa using hcc
              have hb2 : (n == n') = true := by simpa using hnn
              clear HE HG HM HD hcc hnn
              go_upto_region 7 with fail
              obtain ⟨w5, hw5⟩ : ∃ w5, wr.drew = w5 := ⟨_, rfl⟩
              have hB5 : Below w.heap.size w w5 := by rw [← hw5]; exact hbq.drew
              have c1 : ∀ w', Below w5.heap.size w5 w' → w'.cell? ⟨b, off + k * 19, none⟩ = some (.int .i64 c) := fun w' hw' => ((hB5.trans (hw'.mono hB5.size)).cell (p := ⟨b, off + k * 19, none⟩) hb).trans e0
              have c2 : ∀ w', Below w5.heap.size w5 w' → w'.cell? ⟨b, off + k * 19 + 1, none⟩ = some (.int .i64 n) := fun w' hw' => ((hB5.trans (hw'.mono hB5.size)).cell (p := ⟨b, off + k * 19 + 1, none⟩) hb).trans e1
              have d1 : ∀ w', Below w5.heap.size w5 w' → w'.cell? ⟨b, off + j * 19, none⟩ = some (.int .i64 c') := fun w' hw' => ((hB5.trans (hw'.mono hB5.size)).cell (p := ⟨b, off + j * 19, none⟩) hb).trans f0
              have d2 : ∀ w', Below w5.heap.size w5 w' → w'.cell? ⟨b, off + j * 19 + 1, none⟩ = some (.int .i64 n') := fun w' hw' => ((hB5.trans (hw'.mono hB5.size)).cell (p := ⟨b, off + j * 19 + 1, none⟩) hb).trans f1
              refine hs_begin (S := (Below w5.heap.size w5)) 24 rfl (by kernel_rfl) ?_
              rw [hw5]
              clear hw5 hbq
              have hS : (Below w5.heap.size w5) w5 := Below.refl _ _
              refine hs_take (i := 0) (d := some 16) (v := ?_) rfl (by kernel_rfl) (by kernel_rfl) (by kernel_rfl) (by rfl) ?_ hS rfl ?_
              rotate_left
              · intro w' hw
                go_simp
                try with_reducible rfl
              simp only [Act.put, List.setIfInBounds_toArray, List.set_cons_zero, List.set_cons_succ]
              refine hs_take (i := 1) (d := some 17) (v := ?_) rfl (by kernel_rfl) (by kernel_rfl) (by kernel_rfl) (by rfl) ?_ hS rfl ?_
              rotate_left
              · intro w' hw
                go_simp
                try with_reducible rfl
              simp only [Act.put, List.setIfInBounds_toArray, List.set_cons_zero, List.set_cons_succ]
              refine hs_take (i := 2) (d := some 18) (v := ?_) rfl (by kernel_rfl) (by kernel_rfl) (by kernel_rfl) (by rfl) ?_ hS rfl ?_
              rotate_left
              · intro w' hw
                go_simp
                try with_reducible rfl
              simp only [Act.put, List.setIfInBounds_toArray, List.set_cons_zero, List.set_cons_succ]
              refine hs_take (i := 3) (d := some 19) (v := ?_) rfl (by kernel_rfl) (by kernel_rfl) (by kernel_rfl) (by rfl) ?_ hS rfl ?_
              rotate_left
              · intro w' hw
                go_simp
                try with_reducible rfl
              simp only [Act.put, List.setIfInBounds_toArray, List.set_cons_zero, List.set_cons_succ]
              refine hs_take (i := 4) (d := some 20) (v := ?_) rfl (by kernel_rfl) (by kernel_rfl) (by kernel_rfl) (by rfl) ?_ hS rfl ?_
              rotate_left
              · intro w' hw
                have hc := c1 w' hw
                go_simp
                try with_reducible rfl
              simp only [Act.put, List.setIfInBounds_toArray, List.set_cons_zero, List.set_cons_succ]
              refine hs_take (i := 5) (d := some 21) (v := ?_) rfl (by kernel_rfl) (by kernel_rfl) (by kernel_rfl) (by rfl) ?_ hS rfl ?_
              rotate_left
              · intro w' hw
                go_simp
                try with_reducible rfl
              simp only [Act.put, List.setIfInBounds_toArray, List.set_cons_zero, List.set_cons_succ]
              refine hs_take (i := 6) (d := some 22) (v := ?_) rfl (by kernel_rfl) (by kernel_rfl) (by kernel_rfl) (by rfl) ?_ hS rfl ?_
              rotate_left
              · intro w' hw
                go_simp
                try with_reducible rfl
              simp only [Act.put, List.setIfInBounds_toArray, List.set_cons_zero, List.set_cons_succ]
              refine hs_take (i := 7) (d := some 23) (v := ?_) rfl (by kernel_rfl) (by kernel_rfl) (by kernel_rfl) (by rfl) ?_ hS rfl ?_
              rotate_left
              · intro w' hw
                go_simp
                try with_reducible rfl
              simp only [Act.put, List.setIfInBounds_toArray, List.set_cons_zero, List.set_cons_succ]
              refine hs_take (i := 8) (d := some 24) (v := ?_) rfl (by kernel_rfl) (by kernel_rfl) (by kernel_rfl) (by rfl) ?_ hS rfl ?_
              rotate_left
              · intro w' hw
                go_simp
                try with_reducible rfl
              simp only [Act.put, List.setIfInBounds_toArray, List.set_cons_zero, List.set_cons_succ]
              refine hs_take (i := 9) (d := some 25) (v := ?_) rfl (by kernel_rfl) (by kernel_rfl) (by kernel_rfl) (by rfl) ?_ hS rfl ?_
              rotate_left
              · intro w' hw
                have hc := d1 w' hw
                go_simp
                try with_reducible rfl
              simp only [Act.put, List.setIfInBounds_toArray, List.set_cons_zero, List.set_cons_succ]
              refine hs_take (i := 10) (d := some 26) (v := .bool true) rfl (by kernel_rfl) (by kernel_rfl) (by kernel_rfl) (by rfl) (fun w' hw => by go_simp) hS rfl ?_
              simp only [Act.put, List.setIfInBounds_toArray, List.set_cons_zero, List.set_cons_succ]
              refine hs_take (i := 11) (d := some 27) (v := ?_) rfl (by kernel_rfl) (by kernel_rfl) (by kernel_rfl) (by rfl) ?_ hS rfl ?_
              rotate_left
              · intro w' hw
                go_simp
                try with_reducible rfl
              simp only [Act.put, List.setIfInBounds_toArray, List.set_cons_zero, List.set_cons_succ]
              refine hs_take (i := 12) (d := some 28) (v := ?_) rfl (by kernel_rfl) (by kernel_rfl) (by kernel_rfl) (by rfl) ?_ hS rfl ?_
              rotate_left
              · intro w' hw
                go_simp
                try with_reducible rfl
              simp only [Act.put, List.setIfInBounds_toArray, List.set_cons_zero, List.set_cons_succ]
              refine hs_take (i := 13) (d := some 29) (v := ?_) rfl (by kernel_rfl) (by kernel_rfl) (by kernel_rfl) (by rfl) ?_ hS rfl ?_
              rotate_left
              · intro w' hw
                go_simp
                try with_reducible rfl
              simp only [Act.put, List.setIfInBounds_toArray, List.set_cons_zero, List.set_cons_succ]
              refine hs_take (i := 14) (d := some 30) (v := ?_) rfl (by kernel_rfl) (by kernel_rfl) (by kernel_rfl) (by rfl) ?_ hS rfl ?_
              rotate_left
              · intro w' hw
                go_simp
                try with_reducible rfl
              simp only [Act.put, List.setIfInBounds_toArray, List.set_cons_zero, List.set_cons_succ]
              refine hs_take (i := 15) (d := some 31) (v := ?_) rfl (by kernel_rfl) (by kernel_rfl) (by kernel_rfl) (by rfl) ?_ hS rfl ?_
              rotate_left
              · intro w' hw
                go_simp
                try with_reducible rfl
              simp only [Act.put, List.setIfInBounds_toArray, List.set_cons_zero, List.set_cons_succ]
              refine hs_take (i := 16) (d := some 32) (v := ?_) rfl (by kernel_rfl) (by kernel_rfl) (by kernel_rfl) (by rfl) ?_ hS rfl ?_
              rotate_left
              · intro w' hw
                have hc := c2 w' hw
                go_simp
                try with_reducible rfl
              simp only [Act.put, List.setIfInBounds_toArray, List.set_cons_zero, List.set_cons_succ]
              refine hs_take (i := 17) (d := some 33) (v := ?_) rfl (by kernel_rfl) (by kernel_rfl) (by kernel_rfl) (by rfl) ?_ hS rfl ?_
              rotate_left
              · intro w' hw
                go_simp
                try with_reducible rfl
              simp only [Act.put, List.setIfInBounds_toArray, List.set_cons_zero, List.set_cons_succ]
              refine hs_take (i := 18) (d := some 34) (v := ?_) rfl (by kernel_rfl) (by kernel_rfl) (by kernel_rfl) (by rfl) ?_ hS rfl ?_
              rotate_left
              · intro w' hw
                go_simp
                try with_reducible rfl
              simp only [Act.put, List.setIfInBounds_toArray, List.set_cons_zero, List.set_cons_succ]
              refine hs_take (i := 19) (d := some 35) (v := ?_) rfl (by kernel_rfl) (by kernel_rfl) (by kernel_rfl) (by rfl) ?_ hS rfl ?_
              rotate_left
              · intro w' hw
                go_simp
                try with_reducible rfl
              simp only [Act.put, List.setIfInBounds_toArray, List.set_cons_zero, List.set_cons_succ]
              refine hs_take (i := 20) (d := some 36) (v := ?_) rfl (by kernel_rfl) (by kernel_rfl) (by kernel_rfl) (by rfl) ?_ hS rfl ?_
              rotate_left
              · intro w' hw
                go_simp
                try with_reducible rfl
              simp only [Act.put, List.setIfInBounds_toArray, List.set_cons_zero, List.set_cons_succ]
              refine hs_take (i := 21) (d := some 37) (v := ?_) rfl (by kernel_rfl) (by kernel_rfl) (by kernel_rfl) (by rfl) ?_ hS rfl ?_
              rotate_left
              · intro w' hw
                have hc := d2 w' hw
                go_simp
                try with_reducible rfl
              simp only [Act.put, List.setIfInBounds_toArray, List.set_cons_zero, List.set_cons_succ]
              refine hs_take (i := 22) (d := some 38) (v := .bool true) rfl (by kernel_rfl) (by kernel_rfl) (by kernel_rfl) (by rfl) (fun w' hw => by go_simp) hS rfl ?_
              simp only [Act.put, List.setIfInBounds_toArray, List.set_cons_zero, List.set_cons_succ]
              refine hs_take (i := 23) (d := some 39) (v := .bool true) rfl (by kernel_rfl) (by kernel_rfl) (by kernel_rfl) (by rfl) (fun w' hw => by go_simp) hS rfl ?_
              simp only [Act.put, List.setIfInBounds_toArray, List.set_cons_zero, List.set_cons_succ]
              refine hs_done (by kernel_rfl) ?_
              go_wp2
              go_ret
              exact ⟨_, rfl, HZ.out, hB5⟩
            · have hb2 : (n == n') = false := by simpa using hnn
              have hb1 : (c == c') = true := by simpa using hcc
              have HN : Hid (pk (rs[j]?.getD default) ≠ (c, n)) := hide (fun hx => hnn (by rw [HE.out] at hx; injection hx with _ h2; exact h2.symm))
              clear hnn hcc HE HG
              go_upto_region 7 with fail
              obtain ⟨w5, hw5⟩ : ∃ w5, wr.drew = w5 := ⟨_, rfl⟩
              have hB5 : Below w.heap.size w w5 := by rw [← hw5]; exact hbq.drew
              have c1 : ∀ w', Below w5.heap.size w5 w' → w'.cell? ⟨b, off + k * 19, none⟩ = some (.int .i64 c) := fun w' hw' => ((hB5.trans (hw'.mono hB5.size)).cell (p := ⟨b, off + k * 19, none⟩) hb).trans e0
              have c2 : ∀ w', Below w5.heap.size w5 w' → w'.cell? ⟨b, off + k * 19 + 1, none⟩ = some (.int .i64 n) := fun w' hw' => ((hB5.trans (hw'.mono hB5.size)).cell (p := ⟨b, off + k * 19 + 1, none⟩) hb).trans e1
              have d1 : ∀ w', Below w5.heap.size w5 w' → w'.cell? ⟨b, off + j * 19, none⟩ = some (.int .i64 c') := fun w' hw' => ((hB5.trans (hw'.mono hB5.size)).cell (p := ⟨b, off + j * 19, none⟩) hb).trans f0
              have d2 : ∀ w', Below w5.heap.size w5 w' → w'.cell? ⟨b, off + j * 19 + 1, none⟩ = some (.int .i64 n') := fun w' hw' => ((hB5.trans (hw'.mono hB5.size)).cell (p := ⟨b, off + j * 19 + 1, none⟩) hb).trans f1
              refine hs_begin (S := (Below w5.heap.size w5)) 24 rfl (by kernel_rfl) ?_
              rw [hw5]
              clear hw5 hbq
              have hS : (Below w5.heap.size w5) w5 := Below.refl _ _
              refine hs_take (i := 0) (d := some 16) (v := ?_) rfl (by kernel_rfl) (by kernel_rfl) (by kernel_rfl) (by rfl) ?_ hS rfl ?_
              rotate_left
              · intro w' hw
                go_simp
                try with_reducible rfl
              simp only [Act.put, List.setIfInBounds_toArray, List.set_cons_zero, List.set_cons_succ]
              refine hs_take (i := 1) (d := some 17) (v := ?_) rfl (by kernel_rfl) (by kernel_rfl) (by kernel_rfl) (by rfl) ?_ hS rfl ?_
              rotate_left
              · intro w' hw
                go_simp
                try with_reducible rfl
              simp only [Act.put, List.setIfInBounds_toArray, List.set_cons_zero, List.set_cons_succ]
              refine hs_take (i := 2) (d := some 18) (v := ?_) rfl (by kernel_rfl) (by kernel_rfl) (by kernel_rfl) (by rfl) ?_ hS rfl ?_
              rotate_left
              · intro w' hw
                go_simp
                try with_reducible rfl
              simp only [Act.put, List.setIfInBounds_toArray, List.set_cons_zero, List.set_cons_succ]
              refine hs_take (i := 3) (d := some 19) (v := ?_) rfl (by kernel_rfl) (by kernel_rfl) (by kernel_rfl) (by rfl) ?_ hS rfl ?_
              rotate_left
              · intro w' hw
                go_simp
                try with_reducible rfl
              simp only [Act.put, List.setIfInBounds_toArray, List.set_cons_zero, List.set_cons_succ]
              refine hs_take (i := 4) (d := some 20) (v := ?_) rfl (by kernel_rfl) (by kernel_rfl) (by kernel_rfl) (by rfl) ?_ hS rfl ?_
              rotate_left
              · intro w' hw
                have hc := c1 w' hw
                go_simp
                try with_reducible rfl
              simp only [Act.put, List.setIfInBounds_toArray, List.set_cons_zero, List.set_cons_succ]
              refine hs_take (i := 5) (d := some 21) (v := ?_) rfl (by kernel_rfl) (by kernel_rfl) (by kernel_rfl) (by rfl) ?_ hS rfl ?_
              rotate_left
              · intro w' hw
                go_simp
                try with_reducible rfl
              simp only [Act.put, List.setIfInBounds_toArray, List.set_cons_zero, List.set_cons_succ]
              refine hs_take (i := 6) (d := some 22) (v := ?_) rfl (by kernel_rfl) (by kernel_rfl) (by kernel_rfl) (by rfl) ?_ hS rfl ?_
              rotate_left
              · intro w' hw
                go_simp
                try with_reducible rfl
              simp only [Act.put, List.setIfInBounds_toArray, List.set_cons_zero, List.set_cons_succ]
              refine hs_take (i := 7) (d := some 23) (v := ?_) rfl (by kernel_rfl) (by kernel_rfl) (by kernel_rfl) (by rfl) ?_ hS rfl ?_
              rotate_left
              · intro w' hw
                go_simp
                try with_reducible rfl
              simp only [Act.put, List.setIfInBounds_toArray, List.set_cons_zero, List.set_cons_succ]
              refine hs_take (i := 8) (d := some 24) (v := ?_) rfl (by kernel_rfl) (by kernel_rfl) (by kernel_rfl) (by rfl) ?_ hS rfl ?_
              rotate_left
              · intro w' hw
                go_simp
                try with_reducible rfl
              simp only [Act.put, List.setIfInBounds_toArray, List.set_cons_zero, List.set_cons_succ]
              refine hs_take (i := 9) (d := some 25) (v := ?_) rfl (by kernel_rfl) (by kernel_rfl) (by kernel_rfl) (by rfl) ?_ hS rfl ?_
              rotate_left
              · intro w' hw
                have hc := d1 w' hw
                go_simp
                try with_reducible rfl
              simp only [Act.put, List.setIfInBounds_toArray, List.set_cons_zero, List.set_cons_succ]
              refine hs_take (i := 10) (d := some 26) (v := .bool true) rfl (by kernel_rfl) (by kernel_rfl) (by kernel_rfl) (by rfl) (fun w' hw => by go_simp) hS rfl ?_
              simp only [Act.put, List.setIfInBounds_toArray, List.set_cons_zero, List.set_cons_succ]
              refine hs_take (i := 11) (d := some 27) (v := ?_) rfl (by kernel_rfl) (by kernel_rfl) (by kernel_rfl) (by rfl) ?_ hS rfl ?_
              rotate_left
              · intro w' hw
                go_simp
                try with_reducible rfl
              simp only [Act.put, List.setIfInBounds_toArray, List.set_cons_zero, List.set_cons_succ]
              refine hs_take (i := 12) (d := some 28) (v := ?_) rfl (by kernel_rfl) (by kernel_rfl) (by kernel_rfl) (by rfl) ?_ hS rfl ?_
              rotate_left
              · intro w' hw
                go_simp
                try with_reducible rfl
              simp only [Act.put, List.setIfInBounds_toArray, List.set_cons_zero, List.set_cons_succ]
              refine hs_take (i := 13) (d := some 29) (v := ?_) rfl (by kernel_rfl) (by kernel_rfl) (by kernel_rfl) (by rfl) ?_ hS rfl ?_
              rotate_left
              · intro w' hw
                go_simp
                try with_reducible rfl
              simp only [Act.put, List.setIfInBounds_toArray, List.set_cons_zero, List.set_cons_succ]
              refine hs_take (i := 14) (d := some 30) (v := ?_) rfl (by kernel_rfl) (by kernel_rfl) (by kernel_rfl) (by rfl) ?_ hS rfl ?_
              rotate_left
              · intro w' hw
                go_simp
                try with_reducible rfl
              simp only [Act.put, List.setIfInBounds_toArray, List.set_cons_zero, List.set_cons_succ]
              refine hs_take (i := 15) (d := some 31) (v := ?_) rfl (by kernel_rfl) (by kernel_rfl) (by kernel_rfl) (by rfl) ?_ hS rfl ?_
              rotate_left
              · intro w' hw
                go_simp
                try with_reducible rfl
              simp only [Act.put, List.setIfInBounds_toArray, List.set_cons_zero, List.set_cons_succ]
              refine hs_take (i := 16) (d := some 32) (v := ?_) rfl (by kernel_rfl) (by kernel_rfl) (by kernel_rfl) (by rfl) ?_ hS rfl ?_
              rotate_left
              · intro w' hw
                have hc := c2 w' hw
                go_simp
                try with_reducible rfl
              simp only [Act.put, List.setIfInBounds_toArray, List.set_cons_zero, List.set_cons_succ]
              refine hs_take (i := 17) (d := some 33) (v := ?_) rfl (by kernel_rfl) (by kernel_rfl) (by kernel_rfl) (by rfl) ?_ hS rfl ?_
              rotate_left
              · intro w' hw
                go_simp
                try with_reducible rfl
              simp only [Act.put, List.setIfInBounds_toArray, List.set_cons_zero, List.set_cons_succ]
              refine hs_take (i := 18) (d := some 34) (v := ?_) rfl (by kernel_rfl) (by kernel_rfl) (by kernel_rfl) (by rfl) ?_ hS rfl ?_
              rotate_left
              · intro w' hw
                go_simp
                try with_reducible rfl
              simp only [Act.put, List.setIfInBounds_toArray, List.set_cons_zero, List.set_cons_succ]
              refine hs_take (i := 19) (d := some 35) (v := ?_) rfl (by kernel_rfl) (by kernel_rfl) (by kernel_rfl) (by rfl) ?_ hS rfl ?_
              rotate_left
              · intro w' hw
                go_simp
                try with_reducible rfl
              simp only [Act.put, List.setIfInBounds_toArray, List.set_cons_zero, List.set_cons_succ]
              refine hs_take (i := 20) (d := some 36) (v := ?_) rfl (by kernel_rfl) (by kernel_rfl) (by kernel_rfl) (by rfl) ?_ hS rfl ?_
              rotate_left
              · intro w' hw
                go_simp
                try with_reducible rfl
              simp only [Act.put, List.setIfInBounds_toArray, List.set_cons_zero, List.set_cons_succ]
              refine hs_take (i := 21) (d := some 37) (v := ?_) rfl (by kernel_rfl) (by kernel_rfl) (by kernel_rfl) (by rfl) ?_ hS rfl ?_
              rotate_left
              · intro w' hw
                have hc := d2 w' hw
                go_simp
                try with_reducible rfl
              simp only [Act.put, List.setIfInBounds_toArray, List.set_cons_zero, List.set_cons_succ]
              refine hs_take (i := 22) (d := some 38) (v := .bool false) rfl (by kernel_rfl) (by kernel_rfl) (by kernel_rfl) (by rfl) (fun w' hw => by go_simp) hS rfl ?_
              simp only [Act.put, List.setIfInBounds_toArray, List.set_cons_zero, List.set_cons_succ]
              refine hs_take (i := 23) (d := some 39) (v := .bool false) rfl (by kernel_rfl) (by kernel_rfl) (by kernel_rfl) (by rfl) (fun w' hw => by go_simp) hS rfl ?_
              simp only [Act.put, List.setIfInBounds_toArray, List.set_cons_zero, List.set_cons_succ]
              refine hs_done (by kernel_rfl) ?_
              go_wp2
              go_roundw
              case rel => exact ⟨j + 1, by omega, by go_num, hide (fun i hi => by
                by_cases e : i = j
                · subst e; exact HN.out
                · exact HM.out i (by omega)), hB5⟩
              case measure => simp [intOf]; omega
          · have hb1 : (c == c') = false := by simpa using hcc
            have HN : Hid (pk (rs[j]?.getD default) ≠ (c, n)) := hide (fun hx => hcc (by rw [HE.out] at hx; injection hx with h2 _; exact h2.symm))
            clear hcc HE HG
            go_upto_region 7 with fail
            obtain ⟨w5, hw5⟩ : ∃ w5, wr.drew = w5 := ⟨_, rfl⟩
            have hB5 : Below w.heap.size w w5 := by rw [← hw5]; exact hbq.drew
            have c1 : ∀ w', Below w5.heap.size w5 w' → w'.cell? ⟨b, off + k * 19, none⟩ = some (.int .i64 c) := fun w' hw' => ((hB5.trans (hw'.mono hB5.size)).cell (p := ⟨b, off + k * 19, none⟩) hb).trans e0
            have c2 : ∀ w', Below w5.heap.size w5 w' → w'.cell? ⟨b, off + k * 19 + 1, none⟩ = some (.int .i64 n) := fun w' hw' => ((hB5.trans (hw'.mono hB5.size)).cell (p := ⟨b, off + k * 19 + 1, none⟩) hb).trans e1
            have d1 : ∀ w', Below w5.heap.size w5 w' → w'.cell? ⟨b, off + j * 19, none⟩ = some (.int .i64 c') := fun w' hw' => ((hB5.trans (hw'.mono hB5.size)).cell (p := ⟨b, off + j * 19, none⟩) hb).trans f0
            have d2 : ∀ w', Below w5.heap.size w5 w' → w'.cell? ⟨b, off + j * 19 + 1, none⟩ = some (.int .i64 n') := fun w' hw' => ((hB5.trans (hw'.mono hB5.size)).cell (p := ⟨b, off + j * 19 + 1, none⟩) hb).trans f1
            refine hs_begin (S := (Below w5.heap.size w5)) 24 rfl (by kernel_rfl) ?_
            rw [hw5]
            clear hw5 hbq
            have hS : (Below w5.heap.size w5) w5 := Below.refl _ _
            refine hs_take (i := 0) (d := some 16) (v := ?_) rfl (by kernel_rfl) (by kernel_rfl) (by kernel_rfl) (by rfl) ?_ hS rfl ?_
            rotate_left
            · intro w' hw
              go_simp
              try with_reducible rfl
            simp only [Act.put, List.setIfInBounds_toArray, List.set_cons_zero, List.set_cons_succ]
            refine hs_take (i := 1) (d := some 17) (v := ?_) rfl (by kernel_rfl) (by kernel_rfl) (by kernel_rfl) (by rfl) ?_ hS rfl ?_
            rotate_left
            · intro w' hw
              go_simp
              try with_reducible rfl
            simp only [Act.put, List.setIfInBounds_toArray, List.set_cons_zero, List.set_cons_succ]
            refine hs_take (i := 2) (d := some 18) (v := ?_) rfl (by kernel_rfl) (by kernel_rfl) (by kernel_rfl) (by rfl) ?_ hS rfl ?_
            rotate_left
            · intro w' hw
              go_simp
              try with_reducible rfl
            simp only [Act.put, List.setIfInBounds_toArray, List.set_cons_zero, List.set_cons_succ]
            refine hs_take (i := 3) (d := some 19) (v := ?_) rfl (by kernel_rfl) (by kernel_rfl) (by kernel_rfl) (by rfl) ?_ hS rfl ?_
            rotate_left
            · intro w' hw
              go_simp
              try with_reducible rfl
            simp only [Act.put, List.setIfInBounds_toArray, List.set_cons_zero, List.set_cons_succ]
            refine hs_take (i := 4) (d := some 20) (v := ?_) rfl (by kernel_rfl) (by kernel_rfl) (by kernel_rfl) (by rfl) ?_ hS rfl ?_
            rotate_left
            · intro w' hw
              have hc := c1 w' hw
              go_simp
              try with_reducible rfl
            simp only [Act.put, List.setIfInBounds_toArray, List.set_cons_zero, List.set_cons_succ]
            refine hs_take (i := 5) (d := some 21) (v := ?_) rfl (by kernel_rfl) (by kernel_rfl) (by kernel_rfl) (by rfl) ?_ hS rfl ?_
            rotate_left
            · intro w' hw
              go_simp
              try with_reducible rfl
            simp only [Act.put, List.setIfInBounds_toArray, List.set_cons_zero, List.set_cons_succ]
            refine hs_take (i := 6) (d := some 22) (v := ?_) rfl (by kernel_rfl) (by kernel_rfl) (by kernel_rfl) (by rfl) ?_ hS rfl ?_
            rotate_left
            · intro w' hw
              go_simp
              try with_reducible rfl
            simp only [Act.put, List.setIfInBounds_toArray, List.set_cons_zero, List.set_cons_succ]
            refine hs_take (i := 7) (d := some 23) (v := ?_) rfl (by kernel_rfl) (by kernel_rfl) (by kernel_rfl) (by rfl) ?_ hS rfl ?_
            rotate_left
            · intro w' hw
              go_simp
              try with_reducible rfl
            simp only [Act.put, List.setIfInBounds_toArray, List.set_cons_zero, List.set_cons_succ]
            refine hs_take (i := 8) (d := some 24) (v := ?_) rfl (by kernel_rfl) (by kernel_rfl) (by kernel_rfl) (by rfl) ?_ hS rfl ?_
            rotate_left
            · intro w' hw
              go_simp
              try with_reducible rfl
            simp only [Act.put, List.setIfInBounds_toArray, List.set_cons_zero, List.set_cons_succ]
            refine hs_take (i := 9) (d := some 25) (v := ?_) rfl (by kernel_rfl) (by kernel_rfl) (by kernel_rfl) (by rfl) ?_ hS rfl ?_
            rotate_left
            · intro w' hw
              have hc := d1 w' hw
              go_simp
              try with_reducible rfl
            simp only [Act.put, List.setIfInBounds_toArray, List.set_cons_zero, List.set_cons_succ]
            refine hs_take (i := 10) (d := some 26) (v := .bool false) rfl (by kernel_rfl) (by kernel_rfl) (by kernel_rfl) (by rfl) (fun w' hw => by go_simp) hS rfl ?_
            simp only [Act.put, List.setIfInBounds_toArray, List.set_cons_zero, List.set_cons_succ]
            refine hs_take (i := 11) (d := some 27) (v := ?_) rfl (by kernel_rfl) (by kernel_rfl) (by kernel_rfl) (by rfl) ?_ hS rfl ?_
            rotate_left
            · intro w' hw
              go_simp
              try with_reducible rfl
            simp only [Act.put, List.setIfInBounds_toArray, List.set_cons_zero, List.set_cons_succ]
            refine hs_skip (i := 12) (d := some 28) rfl (by kernel_rfl) (by kernel_rfl) (by kernel_rfl) (by rfl) hS rfl ?_
            simp only [Act.put, List.setIfInBounds_toArray, List.set_cons_zero, List.set_cons_succ]
            refine hs_skip (i := 13) (d := some 29) rfl (by kernel_rfl) (by kernel_rfl) (by kernel_rfl) (by rfl) hS rfl ?_
            simp only [Act.put, List.setIfInBounds_toArray, List.set_cons_zero, List.set_cons_succ]
            refine hs_skip (i := 14) (d := some 30) rfl (by kernel_rfl) (by kernel_rfl) (by kernel_rfl) (by rfl) hS rfl ?_
            simp only [Act.put, List.setIfInBounds_toArray, List.set_cons_zero, List.set_cons_succ]
            refine hs_skip (i := 15) (d := some 31) rfl (by kernel_rfl) (by kernel_rfl) (by kernel_rfl) (by rfl) hS rfl ?_
            simp only [Act.put, List.setIfInBounds_toArray, List.set_cons_zero, List.set_cons_succ]
            refine hs_skip (i := 16) (d := some 32) rfl (by kernel_rfl) (by kernel_rfl) (by kernel_rfl) (by rfl) hS rfl ?_
            simp only [Act.put, List.setIfInBounds_toArray, List.set_cons_zero, List.set_cons_succ]
            refine hs_skip (i := 17) (d := some 33) rfl (by kernel_rfl) (by kernel_rfl) (by kernel_rfl) (by rfl) hS rfl ?_
            simp only [Act.put, List.setIfInBounds_toArray, List.set_cons_zero, List.set_cons_succ]
            refine hs_skip (i := 18) (d := some 34) rfl (by kernel_rfl) (by kernel_rfl) (by kernel_rfl) (by rfl) hS rfl ?_
            simp only [Act.put, List.setIfInBounds_toArray, List.set_cons_zero, List.set_cons_succ]
            refine hs_skip (i := 19) (d := some 35) rfl (by kernel_rfl) (by kernel_rfl) (by kernel_rfl) (by rfl) hS rfl ?_
            simp only [Act.put, List.setIfInBounds_toArray, List.set_cons_zero, List.set_cons_succ]
            refine hs_skip (i := 20) (d := some 36) rfl (by kernel_rfl) (by kernel_rfl) (by kernel_rfl) (by rfl) hS rfl ?_
            simp only [Act.put, List.setIfInBounds_toArray, List.set_cons_zero, List.set_cons_succ]
            refine hs_skip (i := 21) (d := some 37) rfl (by kernel_rfl) (by kernel_rfl) (by kernel_rfl) (by rfl) hS rfl ?_
            simp only [Act.put, List.setIfInBounds_toArray, List.set_cons_zero, List.set_cons_succ]
            refine hs_skip (i := 22) (d := some 38) rfl (by kernel_rfl) (by kernel_rfl) (by kernel_rfl) (by rfl) hS rfl ?_
            simp only [Act.put, List.setIfInBounds_toArray, List.set_cons_zero, List.set_cons_succ]
            refine hs_take (i := 23) (d := some 39) (v := .bool false) rfl (by kernel_rfl) (by kernel_rfl) (by kernel_rfl) (by rfl) (fun w' hw => by go_simp) hS rfl ?_
            simp only [Act.put, List.setIfInBounds_toArray, List.set_cons_zero, List.set_cons_succ]
            refine hs_done (by kernel_rfl) ?_
            go_wp2
            go_roundw
            case rel => exact ⟨j + 1, by omega, by go_num, hide (fun i hi => by
              by_cases e : i = j
              · subst e; exact HN.out
              · exact HM.out i (by omega)), hB5⟩
            case measure => simp [intOf]; omega
        · have HD' : Hid (∀ i, i < k + 1 → dupB rs i = false) := hide (fun i hi => by
            by_cases e : i = k
            · subst e
              cases hx : dupB rs i
              · rfl
              · obtain ⟨y, hy, he⟩ := (dupB_iff hlt).1 hx
                refine absurd ?_ (HM.out y (by omega))
                rw [List.getElem?_eq_getElem (by omega)]
                show pk rs[y] = (c, n)
                rw [he, ← hc.out, ← hn.out]
                rfl
            · exact HD.out i (by omega))
          have j1 : ¬ (j : Int) < k := by omega
          clear HM HD
          go_wp2
          go_roundw
          case rel => exact ⟨k + 1, by omega, by go_num, HD', hbq⟩
          case measure => simp [intOf]; omega
    · have HZ : Hid (TwiceIs rs (-1)) := hide (Or.inl ⟨rfl, fun i hi => HD.out i (by omega)⟩)
      have k1 : ¬ (k : Int) < rs.length := by omega
      clear HD
      go_wp2
      go_ret
      exact ⟨_, rfl, HZ.out, hB⟩
end Go.Proofs.YtinpbnkmpplkiaaDoor
namespace Go.Proofs.YtinpbnkmpplkiaaDoor
open Go.RowKit
open Sha Tal
def Rq.good (ds : List (List Int)) (N m : Int) (r : Rq) : Int := goodV ds N m r.c r.n r.s r.t
def stopV (ds : List (List Int)) (N m : Int) (rs : List Rq) (i : Nat) : Int :=
  match rs[i]? with | some r => if r.good ds N m ≠ 0 then r.good ds N m else if dupB rs i then 202 else 0 | none => 0
theorem stopV_at {ds : List (List Int)} {N m : Int} {rs : List Rq} {i : Nat} (h : i < rs.length) : stopV ds N m rs i = if rs[i].good ds N m ≠ 0 then rs[i].good ds N m else if dupB rs i then 202 else 0 := by
  unfold stopV
  rw [List.getElem?_eq_getElem h]
def tooMany (q : Bool) (rs : List Rq) (most : Int) : Prop := (q = true ∧ rs ≠ []) ∨ most < rs.length
def GoodIs (ds : List (List Int)) (N m most : Int) (q : Bool) (rs : List Rq) (y : Int) : Prop :=
  (tooMany q rs most ∧ y = 70) ∨ (¬ tooMany q rs most ∧ ((y = 0 ∧ ∀ i, i < rs.length → stopV ds N m rs i = 0) ∨ ∃ i, i < rs.length ∧ y = stopV ds N m rs i ∧ y ≠ 0 ∧ ∀ j, j < i → stopV ds N m rs j = 0))
theorem GoodIs.one {ds : List (List Int)} {N m most : Int} {q : Bool} {rs : List Rq} {y y' : Int} (h : GoodIs ds N m most q rs y) (h' : GoodIs ds N m most q rs y') : y = y' := by
  rcases h with ⟨h1, rfl⟩ | ⟨h1, h2⟩ <;> rcases h' with ⟨h1', rfl⟩ | ⟨h1', h2'⟩
  · rfl
  · exact absurd h1 h1'
  · exact absurd h1' h1
  · rcases h2 with ⟨rfl, k1⟩ | ⟨i, hi, rfl, k1, k2⟩ <;> rcases h2' with ⟨rfl, k1'⟩ | ⟨i', hi', rfl, k1', k2'⟩
    · rfl
    · exact absurd (k1 i' hi') k1'
    · exact absurd (k1' i hi) k1
    · rcases Nat.lt_trichotomy i i' with h | h | h
      · exact absurd (k2' i h) k1
      · rw [h]
      · exact absurd (k2 i' h) k1'
theorem stop_dup {ds : List (List Int)} {N m : Int} {rs : List Rq} {i : Nat} (hi : i < rs.length) (h : stopV ds N m rs i = 0) : rs[i].good ds N m = 0 ∧ dupB rs i = false := by
  rw [stopV_at hi] at h
  split at h
  · rename_i h0; exact absurd h h0
  · rename_i h0
    refine ⟨Classical.not_not.1 h0, ?_⟩
    cases hx : dupB rs i
    · rfl
    · rw [hx] at h; cases h
theorem twice_here {rs : List Rq} {z : Int} {k : Nat} (hz : TwiceIs rs z) (hk : k < rs.length) (hno : ∀ j, j < k → dupB rs j = false) : dupB rs k = decide ((k : Int) = z) := by
  cases hx : dupB rs k
  · symm
    rw [decide_eq_false_iff_not]
    rintro rfl
    rcases hz with ⟨h1, _⟩ | ⟨i, h1, h2, h3, _⟩
    · omega
    · have : k = i := by omega
      subst this
      rw [hx] at h3; cases h3
  · symm
    rw [decide_eq_true_eq]
    exact TwiceIs.one (.inr ⟨k, rfl, hk, hx, hno⟩) hz
set_option maxRecDepth 100000 in
set_option maxHeartbeats 2000000 in
theorem bgood_any (p : Option Addr) (ds : List (List Int)) (N m most : Int) (q : Bool) (a : Option Addr) (cap : Nat) (rs : List Rq) (w : World) (hK : KeysAt w p ds) (hG : Glob w) (h : ReqsAt w a rs) (hn : rs.length ≤ 200) :
    Calls Tryd.prog 12 #[.pointer p, .int .i64 N, .int .i64 m, .int .i64 most, batV q a rs.length cap] w fun e w' => ∃ y : Int, e = .returned (.int .i64 y) ∧ GoodIs ds N m most q rs y ∧ Below w.heap.size w w' := by
  unfold batV
  have hall := h.2.1
  have hB1 : Below w.heap.size w (w.alloc (.cells #[.bool q, .slice a rs.length cap] 24)) := (Below.refl _ _).alloc (Nat.le_refl _) _
  have hb1 := BatBox.mk w q a rs.length cap
  have ct := fun w0 h0 => twice_any a cap rs w0 h0 hn
  obtain ⟨Q, hQ⟩ : ∃ Q, Hid (GoodIs ds N m most q rs = Q) := ⟨_, hide rfl⟩
  have HQT : Hid (tooMany q rs most → Q 70) := hide (fun hh => by rw [← hQ.out]; exact .inl ⟨hh, rfl⟩)
  have HQ0 : Hid (¬ tooMany q rs most → (∀ i, i < rs.length → stopV ds N m rs i = 0) → Q 0) := hide (fun ht hh => by rw [← hQ.out]; exact .inr ⟨ht, .inl ⟨rfl, hh⟩⟩)
  have HQ1 : Hid (¬ tooMany q rs most → ∀ k y, k < rs.length → y = stopV ds N m rs k → y ≠ 0 → (∀ j, j < k → stopV ds N m rs j = 0) → Q y) := hide (fun ht k y hk hy h0 hh => by rw [← hQ.out]; exact .inr ⟨ht, .inr ⟨k, hk, hy, h0, hh⟩⟩)
  rw [hQ.out]
  clear hQ
  go_enter Tryd.func12, Tryd.ntmps12
  go_upto_region 1 with fail
  go_name_world w1 hw1
  rw [hw1] at hB1 hb1
  clear hw1
  have h1 := h.below hB1
  have hK1 := hK.below hB1
  have hG1 := hG.below hB1
  obtain ⟨hX, c0, c1, _⟩ := hb1
  obtain ⟨X, hXe⟩ : ∃ X, Hid (w.heap.size = X) := ⟨_, hide rfl⟩
  rw [hXe.out] at hX c0 c1 ⊢
  by_cases hq : q = true ∧ rs ≠ []
  · have HZ : Hid (Q 70) := hide (HQT.out (.inl hq))
    obtain ⟨rfl, hq⟩ := hq
    have dq : decide (0 < rs.length) = true := decide_eq_true (List.length_pos_iff.2 hq)
    clear ct hq HQT HQ0 HQ1
    go_wp2
    go_ret
    exact ⟨_, rfl, HZ.out, hB1⟩
  by_cases hmo : most < (rs.length : Int)
  · have HZ : Hid (Q 70) := hide (HQT.out (.inr hmo))
    clear ct HQT HQ0 HQ1
    cases q
    · clear hq
      go_wp2
      go_ret
      exact ⟨_, rfl, HZ.out, hB1⟩
    · have hq0 : rs = [] := Classical.byContradiction fun hl => hq ⟨rfl, hl⟩
      subst hq0
      clear hq
      have hmo : most < 0 := hmo
      go_wp2
      go_ret
      exact ⟨_, rfl, HZ.out, hB1⟩
  have HT : Hid (¬ tooMany q rs most) := hide (fun hh => by
    rcases hh with hh | hh
    · exact hq hh
    · exact hmo hh)
  have hqq : q = false ∨ (q = true ∧ rs = []) := by
    cases q
    · exact .inl rfl
    · exact .inr ⟨rfl, Classical.byContradiction fun hl => hq ⟨rfl, hl⟩⟩
  clear hq
  have HR0 := hide (HQ0.out HT.out)
  have HR1 := hide (HQ1.out HT.out)
  clear HT HQT HQ0 HQ1
  rcases hqq with rfl | ⟨rfl, rfl⟩
  rotate_left
  · have hmo : ¬ most < 0 := hmo
    have HZ : Hid (Q 0) := hide (HR0.out (fun i hi => by simp at hi))
    clear HR0 HR1
    go_wp2_with fail
    refine (ct w1 h1).mono ?_
    rintro e w2 ⟨z, rfl, hz, hw2⟩
    have c2 := (hw2.cell (p := ⟨X, 1, none⟩) hX).trans c1
    clear hz ct c0
    go_wp2
    go_loopw [36] (fun iv wr => iv = .int .i64 0 ∧ Below w1.heap.size w1 wr) (fun _ _ => 0)
    case atStart => exact ⟨rfl, hw2⟩
    case round =>
      obtain ⟨rfl, hB⟩ := hrel
      go_wp2
      go_ret
      exact ⟨_, rfl, HZ.out, hB1.trans (hB.mono hB1.size)⟩
  · skip
    go_wp2_with fail
    refine (ct w1 h1).mono ?_
    rintro e w2 ⟨z, rfl, hz, hw2⟩
    have HZ := hide hz
    have c2 := (hw2.cell (p := ⟨X, 1, none⟩) hX).trans c1
    clear hz ct c0
    go_wp2
    go_loopw [36] (fun iv wr => ∃ (k : Nat), k ≤ rs.length ∧ iv = .int .i64 (k : Int) ∧ Hid (∀ j, j < k → stopV ds N m rs j = 0) ∧ Below w1.heap.size w1 wr) (fun iv _ => rs.length - (intOf iv).toNat)
    case atStart => exact ⟨0, by omega, rfl, hide (fun j hj => absurd hj (by omega)), hw2⟩
    case round =>
      clear c2 hw2
      obtain ⟨k, hk, rfl, HD, hB⟩ := hrel
      by_cases hlt : k < rs.length
      · have k1 : (k : Int) < rs.length := by omega
        have hrow := h1.below hB
        obtain ⟨b, off, rfl, hb, hre⟩ := hrow.elem k hlt
        obtain ⟨r, hr⟩ : ∃ r, Hid (rs[k] = r) := ⟨_, hide rfl⟩
        have hok : r.ok := by rw [← hr.out]; exact hall _ (List.getElem_mem hlt)
        rw [hr.out] at hre
        have HU : Hid (stopV ds N m rs k = if r.good ds N m ≠ 0 then r.good ds N m else if decide ((k : Int) = z) then 202 else 0) := hide (by
          rw [stopV_at hlt, hr.out, twice_here HZ.out hlt (fun j hj => (stop_dup (by omega) (HD.out j hj)).2)])
        clear hr hrow
        have hiq := hok.isz
        have hiA := hok.iszA
        have hN := hok.blank wr
        have h1c := all_oneCell_toArray r.one
        have cg := fun w0 hk0 hg0 => good_any p ds N m r.c r.n r.s r.t w0 hk0 hg0 hok.tl hok.ch
        have F := fresh_store wr #[.int .i64 0, .int .i64 0, .string ⟨#[]⟩, .int .u8 0, .int .u8 0, .int .u8 0, .int .u8 0, .int .u8 0, .int .u8 0, .int .u8 0, .int .u8 0, .int .u8 0, .int .u8 0, .int .u8 0, .int .u8 0, .int .u8 0, .int .u8 0, .int .u8 0, .int .u8 0] 60 r.cells (by rw [hok.length]; rfl)
        obtain ⟨u, hu⟩ : ∃ u, Hid (r.cells = u) := ⟨_, hide rfl⟩
        rw [hu.out] at hre hiq hiA hN h1c F
        simp only [show reqL r.c r.n r.s r.t = u from hu.out] at cg
        obtain ⟨g, hg⟩ : ∃ g, Hid (r.good ds N m = g) := ⟨_, hide rfl⟩
        simp only [show goodV ds N m r.c r.n r.s r.t = g from hg.out] at cg
        rw [hg.out] at HU
        clear hu hok hg
        go_upto_region 6 with fail
        try simp only [Act.put]
        refine wp_region_list ?_
        refine wpList_step fun K hK => ?_
        go_simp
        refine hK _ _ ?_
        clear hK K
        refine wpList_step fun K hK => ?_
        go_simp
        refine hK _ _ ?_
        clear hK K
        refine wpList_load_mid rfl 60 _ rfl _ _ rfl u _ hre Tryd.underlying60 rfl hiq ?_
        go_upto_region 7 with (refine wpList_store_mid (op := ⟨none, .store 60 (.tmp 13) (.tmp 40), _, _, _, none⟩) rfl 60 _ _ rfl _ _ u.toArray rfl rfl hN hiA h1c ?_)
        go_name_world w3 hw3
        rw [show (wr.alloc (.cells #[.int .i64 0, .int .i64 0, .string ⟨#[]⟩, .int .u8 0, .int .u8 0, .int .u8 0, .int .u8 0, .int .u8 0, .int .u8 0, .int .u8 0, .int .u8 0, .int .u8 0, .int .u8 0, .int .u8 0, .int .u8 0, .int .u8 0, .int .u8 0, .int .u8 0, .int .u8 0] 60)).setCells wr.heap.size 0 u = w3 from hw3] at F
        clear hw3 hN
        obtain ⟨hR3, hF3, hz3, _⟩ := F
        have hB3 := hB.trans (hF3.mono hB.size)
        clear hF3 hre hz3 hB
        try simp only [Act.put]
        refine wp_region_list ?_
        refine wpList_step fun K hK => ?_
        go_simp
        refine hK _ _ ?_
        clear hK K
        refine wpList_step fun K hK => ?_
        go_simp
        refine hK _ _ ?_
        clear hK K
        refine wpList_step fun K hK => ?_
        go_simp
        refine hK _ _ ?_
        clear hK K
        refine wpList_load_mid rfl 60 _ rfl _ _ rfl u _ hR3 Tryd.underlying60 rfl hiq ?_
        go_wp2_with fail
        refine (cg w3 (hK1.below hB3) (hG1.below hB3)).mono ?_
        rintro e w4 ⟨rfl, hw4⟩
        have hB4 := hB3.trans (hw4.mono hB3.size)
        have hfin := hB1.trans (hB4.mono hB1.size)
        clear hR3 cg hw4
        by_cases hg0 : g = 0
        · rw [if_neg (by rw [hg0]; simp)] at HU
          have b0 : (g == 0) = true := by simpa using hg0
          clear hg0
          by_cases hkz : (k : Int) = z
          · have b1 : ((k : Int) == z) = true := by simpa using hkz
            rw [if_pos (decide_eq_true hkz)] at HU
            have HF : Hid (Q 202) := hide (HR1.out k 202 hlt HU.out.symm (by decide) HD.out)
            clear hkz HU HD HZ
            go_wp2
            go_ret
            exact ⟨_, rfl, HF.out, hfin⟩
          · have b1 : ((k : Int) == z) = false := by simpa using hkz
            rw [if_neg (by rw [decide_eq_false hkz]; decide)] at HU
            have HD' : Hid (∀ j, j < k + 1 → stopV ds N m rs j = 0) := hide (fun j hj => by
              by_cases e : j = k
              · rw [e]; exact HU.out
              · exact HD.out j (by omega))
            clear hkz HU HD
            go_wp2
            go_roundw
            case rel => exact ⟨k + 1, by omega, by go_num, HD', hB4⟩
            case measure => simp [intOf]; omega
        · have b0 : (g == 0) = false := by simpa using hg0
          rw [if_pos hg0] at HU
          have HF : Hid (Q g) := hide (HR1.out k g hlt HU.out.symm hg0 HD.out)
          clear hg0 HU HD HZ
          go_wp2
          go_ret
          exact ⟨_, rfl, HF.out, hfin⟩
      · have HF : Hid (Q 0) := hide (HR0.out (fun i hi => HD.out i (by omega)))
        have k1 : ¬ (k : Int) < rs.length := by omega
        clear HD HZ
        go_wp2
        go_ret
        exact ⟨_, rfl, HF.out, hB1.trans (hB.mono hB1.size)⟩
end Go.Proofs.YtinpbnkmpplkiaaDoor
