/- SlotDecides: the walk -/
import Derived.Test.YtogmkcabndgllabDoorS9h
namespace Go.Proofs.YtogmkcabndgllabDoor
open Go.RowKit
open Sha Tal
set_option linter.unusedVariables false
set_option maxRecDepth 100000 in
set_option maxHeartbeats 8000000 in
theorem decides_a (s : Sl) (b o : Bat) (c : Ce) (w : World) (hG : Glob w) (hs : s.raw w) (hb : b.at w) (ho : o.at w) (hc : c.at w) (hdd : b.dig = o.dig) : Calls Tryd.prog 4 #[.agg s.cells.toArray, .agg b.cells.toArray, .agg o.cells.toArray, .agg c.cells.toArray] w fun e w' => e = .returned (.bool true) ∧ Below w.heap.size w w' := by
  have HDD := hide hdd
  clear hdd
  have hv := hs.vok
  have l1 : s.cells.length = 85 := Sl.len hv
  have i1 : (Tryd.prog.info? 39).map (·.size) = some s.cells.length := by rw [l1]; exact iszTslot
  have hib : (Tryd.prog.info? 24).map (·.size) = some b.cells.length := iszB
  have hio : (Tryd.prog.info? 24).map (·.size) = some o.cells.length := iszB
  have c37 : c.cells.toArray.size = 37 := by simpa using Ce.len hc.v
  go_enter Tryd.func4, Tryd.ntmps4
  go_upto_region 1 with fail
  go_name_world w1 hw1
  obtain ⟨hB1, hrs, hrb, hro, hrc, hTc, hsz⟩ := box4r hw1
  clear hw1
  rw [c37] at hTc
  have q1 : Below w1.heap.size w1 (w1.alloc (.cells s.cells.toArray 39)) := (Below.refl _ _).alloc (Nat.le_refl _) _
  have hB2 := hB1.trans (q1.mono hB1.size)
  have cl := light18_any w1.heap.size 1 [s] (w1.alloc (.cells s.cells.toArray 39)) (by simp) (by simpa using range_new w1 s.cells.toArray 39) (fun x hx => by obtain rfl := List.mem_singleton.1 hx; exact hs.below hB2) (by simp)
  simp only [List.length_cons, List.length_nil, Nat.zero_add, List.mem_singleton, forall_eq] at cl
  try simp only [Act.put]
  refine wp_region_list ?_
  refine wpList_load_mid rfl 39 _ rfl _ _ rfl s.cells _ hrs Tryd.underlying39 rfl i1 ?_
  refine wpList_bs1 (by rfl) 65 _ rfl (u := s.cells) rfl (bs_slot l1 _) ?_
  go_wp2_with fail
  refine cl.mono ?_
  rintro e w3 hcase
  clear cl
  have hrs := range_below hrs q1 (by omega)
  have hrb := range_below hrb q1 (by omega)
  have hro := range_below hro q1 (by omega)
  have hrc := range_below hrc q1 (by omega)
  have hTc := there_below hTc q1 (by omega)
  have hz1 := q1.size
  clear hB1 q1
  generalize w1.alloc (.cells s.cells.toArray 39) = w2 at *
  rcases hcase with ⟨rfl, hw3⟩ | ⟨rfl, hw3, hsm⟩
  · have hB3 := hB2.trans (hw3.mono hB2.size)
    clear hrs hrb hro hrc hTc
    have cL := lives18_any w3 (hG.below hB3)
    go_wp2_with fail
    refine cL.mono ?_
    rintro _ wl ⟨rfl, hBl⟩
    go_wp2_with fail
    go_ret
    exact ⟨rfl, hB3.trans (hBl.mono hB3.size)⟩
  have hrs := range_below hrs hw3 (by omega)
  have hrb := range_below hrb hw3 (by omega)
  have hro := range_below hro hw3 (by omega)
  have hrc := range_below hrc hw3 (by omega)
  have hTc := there_below hTc hw3 (by omega)
  have hB3 := hB2.trans (hw3.mono hB2.size)
  have hz2 := hw3.size
  clear hB2 hw3
  have hL := two_bats w3 b o (hb.below hB3) (ho.below hB3)
  have q1 : Below w3.heap.size w3 (w3.alloc (.cells #[.bool b.q, .slice b.a b.rs.length b.cap, .bool o.q, .slice o.a o.rs.length o.cap] 24)) := (Below.refl _ _).alloc (Nat.le_refl _) _
  have cl := light_any w3.heap.size 2 _ _ hL
  clear hL
  simp only [List.length_cons, List.length_nil, Nat.zero_add] at cl
  go_wp2_with (first
    | (refine wpList_load_g (by rfl) 24 _ rfl (w.heap.size + 1) 0 rfl [.bool b.q, .slice b.a b.rs.length b.cap] _ hrb Tryd.underlying24 rfl iszB ?_)
    | (refine wpList_load_g (by rfl) 24 _ rfl (w.heap.size + 1 + 1) 0 rfl [.bool o.q, .slice o.a o.rs.length o.cap] _ hro Tryd.underlying24 rfl iszB ?_))
  refine cl.mono ?_
  rintro e w5 hcase
  clear cl
  have hrs := range_below hrs q1 (by omega)
  have hrb := range_below hrb q1 (by omega)
  have hro := range_below hro q1 (by omega)
  have hrc := range_below hrc q1 (by omega)
  have hTc := there_below hTc q1 (by omega)
  have hB4 := hB3.trans (q1.mono hB3.size)
  have hz3 := q1.size
  clear q1 hB3
  generalize w3.alloc (.cells #[.bool b.q, .slice b.a b.rs.length b.cap, .bool o.q, .slice o.a o.rs.length o.cap] 24) = w4 at *
  rcases hcase with ⟨rfl, hw5⟩ | ⟨rfl, hw5, hwt⟩
  · have hB5 := hB4.trans (hw5.mono hB4.size)
    clear hrs hrb hro hrc hTc
    have cL := lives18_any w5 (hG.below hB5)
    go_wp2_with fail
    refine cL.mono ?_
    rintro _ wl ⟨rfl, hBl⟩
    go_wp2_with fail
    go_ret
    exact ⟨rfl, hB5.trans (hBl.mono hB5.size)⟩
  have hrs := range_below hrs hw5 (by omega)
  have hrb := range_below hrb hw5 (by omega)
  have hro := range_below hro hw5 (by omega)
  have hrc := range_below hrc hw5 (by omega)
  have hTc := there_below hTc hw5 (by omega)
  have hB5 := hB4.trans (hw5.mono hB4.size)
  have hz4 := hw5.size
  clear hB4 hw5
  have hbl : b.lt := wt_mem (by simp) hwt
  have hol : o.lt := wt_mem (by simp) hwt
  clear hwt
  have hz5 : w.heap.size + 4 ≤ w5.heap.size := by omega
  clear hsz hz1 hz2 hz3 hz4
  have c36 := cert_sl hc.v hrc
  simp only [Nat.zero_add] at c36
  by_cases hsl : (100 : Int) < (c.ss.length : Int)
  · clear hrs hrb hro hrc hTc
    have cL := lives18_any w5 (hG.below hB5)
    go_wp2_with fail
    refine cL.mono ?_
    rintro _ wl ⟨rfl, hBl⟩
    go_wp2_with fail
    go_ret
    exact ⟨rfl, hB5.trans (hBl.mono hB5.size)⟩
  have c84 := (Sl.parts hv hrs).de
  cases hde : s.de with
  | true =>
    rw [hde] at c84
    clear hrs hrb hro hrc hTc hde
    have cL := lives18_any w5 (hG.below hB5)
    go_wp2_with fail
    refine cL.mono ?_
    rintro _ wl ⟨rfl, hBl⟩
    go_wp2_with fail
    go_ret
    exact ⟨rfl, hB5.trans (hBl.mono hB5.size)⟩
  | false =>
  rw [hde] at c84
  have cD := b.xdig_any w5 (hb.below hB5) hbl
  go_upto_region 3 with fail
  clear c84 c36
  try simp only [Act.put]
  refine wp_region_list ?_
  refine wpList_load_mid rfl 24 _ rfl _ _ rfl b.cells _ hrb Tryd.underlying24 rfl hib ?_
  go_wp2_with fail
  refine cD.mono ?_
  rintro _ w6 ⟨rfl, hB6⟩
  clear cD
  have hrs := range_below hrs hB6 (by omega)
  have hrb := range_below hrb hB6 (by omega)
  have hro := range_below hro hB6 (by omega)
  have hrc := range_below hrc hB6 (by omega)
  have hTc := there_below hTc hB6 (by omega)
  have hz6 : w.heap.size + 4 ≤ w6.heap.size := Nat.le_trans hz5 hB6.size
  have hB6 := hB5.trans (hB6.mono hB5.size)
  clear hB5 hz5
  have d32 : (v8 b.dig).toArray.size = 32 := by simpa using b.dig_len
  have hiD2 := iszD2 b
  have hd1 := all_oneS (v8_one b.dig)
  have hT2 : (w6.setCells (w.heap.size + 1 + 1 + 1) 0 [.int .i64 2]).there (w.heap.size + 1 + 1 + 1) 4 (v8 b.dig).toArray.size := by rw [d32]; exact there_part1 (World.there_setCells hTc _ _ _) (by decide)
  go_upto_region 4 with (first
    | (refine wpList_put1 (v := .int .i64 2) rfl 3 _ _ rfl rfl rfl hTc (by decide) iszI rfl rfl ?_)
    | (refine wpList_store_mid rfl 26 _ _ rfl _ 4 (v8 b.dig).toArray rfl rfl hT2 hiD2 hd1 ?_))
  go_name_world w7 hw7
  have hrc7 : w7.rangeAt (w.heap.size + 1 + 1 + 1) 0 ((c.withK 2).withD b.dig).cells := by
    rw [← hw7]
    exact ce_putD (ce_putK hrc hTc) (World.there_setCells hTc _ _ _) (by rw [b.dig_len]; exact hc.v.dl.symm) hc.v.dl
  have hrs : w7.rangeAt w.heap.size 0 s.cells := by rw [← hw7]; exact World.rangeAt_setCells_apart (World.rangeAt_setCells_apart hrs _ _ _ (.inl (by omega))) _ _ _ (.inl (by omega))
  have hrb : w7.rangeAt (w.heap.size + 1) 0 b.cells := by rw [← hw7]; exact World.rangeAt_setCells_apart (World.rangeAt_setCells_apart hrb _ _ _ (.inl (by omega))) _ _ _ (.inl (by omega))
  have hro : w7.rangeAt (w.heap.size + 1 + 1) 0 o.cells := by rw [← hw7]; exact World.rangeAt_setCells_apart (World.rangeAt_setCells_apart hro _ _ _ (.inl (by omega))) _ _ _ (.inl (by omega))
  have hB7 : Below w.heap.size w w7 := by rw [← hw7]; exact below_sets (by omega) _ _ _ (below_sets (by omega) _ _ _ hB6)
  have hz7 : w.heap.size + 4 ≤ w7.heap.size := by rw [← hw7, setCells_size, setCells_size]; exact hz6
  clear hw7 hT2 hTc hrc hB6 hz6 c37
  have hrc := hrc7
  clear hrc7
  have hc2 : ∀ w', Below w.heap.size w w' → ((c.withK 2).withD b.dig).at w' := fun w' h => Ce.withD_at (Ce.withK_at (hc.below h) (by unfold I64; omega)) b.dig_len (digs_ok b)
  have k2 : ((c.withK 2).withD b.dig).v.k = 2 := rfl
  have d2 : ((c.withK 2).withD b.dig).v.d = b.dig := rfl
  have s2 : ((c.withK 2).withD b.dig).v.s = c.v.s := rfl
  have n2 : ((c.withK 2).withD b.dig).ss = c.ss := rfl
  obtain ⟨c2, hc2e⟩ : ∃ c2, Hid ((c.withK 2).withD b.dig = c2) := ⟨_, hide rfl⟩
  simp only [hc2e.out] at hc2
  rw [hc2e.out] at hrc k2 d2 s2 n2
  clear hc2e
  have hic : (Tryd.prog.info? 31).map (·.size) = some c2.cells.length := by rw [Ce.len (hc2 w7 hB7).v]; exact iszCe
  have cDc := dec_any s b c2 w7 (hG.below hB7) (hsm.ok (hs.below hB7)) (hb.below hB7) hbl (hc2 w7 hB7)
  rw [dec1 k2 d2 hde] at cDc
  have hxr := fun w' (h : Below w.heap.size w w') => slD_raw (s := s) (b := b) (c := c2) (hs.below h) (hb.below h) (hc2 w' h)
  have hxsm : (slD s b c2).small := ⟨hsm.b, hsm.hb, hbl, hsm.hc, by show c2.ss.length ≤ 100; rw [n2]; omega⟩
  have pX : ∀ {w' : World} {Z : Nat}, w'.rangeAt Z 0 (slD s b c2).cells → SlParts w' Z (slD s b c2) := fun h => Sl.parts (hxr w7 hB7).vok h
  have lx : (slD s b c2).cells.length = 85 := Sl.len (hxr w7 hB7).vok
  have ox := all_oneS (slD s b c2).one
  have cK := fun w' (h : Below w.heap.size w w') => known_a (slD s b c2) b.dig b.dig_len w' (hG.below h) (hxsm.ok (hxr w' h)) rfl rfl
  have cS := fun w' (h : Below w.heap.size w w') => xslot_self (slD s b c2) w' (hxr w' h) (by have := hxsm.hc; omega) (by have := hxsm.ec; omega)
  have cO := fun w' => of_any (slD s b c2) (hxr w7 hB7).vok w'
  have cD3 := fun w' (h : Below w.heap.size w w') => dec_any (slD s b c2) o (c2.withD o.dig) w' (hG.below h) (hxsm.ok (hxr w' h)) (ho.below h) hol (Ce.withD_at (hc2 w' h) o.dig_len (digs_ok o))
  rw [dec2 (c' := c2.withD o.dig) k2 rfl] at cD3
  have hxe : (slD s b c2).eb.cells = b.cells := rfl
  rw [hxe] at cK
  clear hxe
  have PX0 : ∀ {w' : World} {Z : Nat}, w'.rangeAt Z 0 (slD s b c2).cells → w'.cell? ⟨Z, 84, none⟩ = some (.bool true) ∧ w'.cell? ⟨Z, 44, none⟩ = some (.int .i64 c.v.s) ∧ w'.cell? ⟨Z, 3, none⟩ = some (.bool s.is) ∧ w'.cell? ⟨Z, 43, none⟩ = some (.bool s.ho) := fun h => by
    have P := pX h
    refine ⟨P.de, ?_, P.is, P.ho⟩
    rw [← s2]
    exact P.es
  clear pX
  obtain ⟨kx, hkx⟩ : ∃ kx, Hid ((slD s b c2).cells = kx) := ⟨_, hide rfl⟩
  obtain ⟨k0, hk0⟩ : ∃ k0, Hid (sl0.cells = k0) := ⟨_, hide rfl⟩
  have l0 : k0.length = 85 := by rw [← hk0.out]; rfl
  have o0 : k0.toArray.all (·.oneCell') = true := by rw [← hk0.out]; exact all_oneS sl0.one
  rw [hkx.out] at lx ox
  simp only [hkx.out] at cDc cK cS cO cD3 PX0
  have ax : kx.toArray.size = 85 := by simpa using lx
  have a0 : k0.toArray.size = 85 := by simpa using l0
  have ix : (Tryd.prog.info? 39).map (·.size) = some kx.length := by rw [lx]; exact iszTslot
  have ixa : (Tryd.prog.info? 39).map (·.size) = some kx.toArray.size := by rw [ax]; exact iszTslot
  have i0a : (Tryd.prog.info? 39).map (·.size) = some k0.toArray.size := by rw [a0]; exact iszTslot
  have hzv := fun w' => zero_Tslot w'
  try simp only [Act.put]
  refine wp_region_list ?_
  refine wpList_load_mid rfl 39 _ rfl _ _ rfl s.cells _ hrs Tryd.underlying39 rfl i1 ?_
  refine wpList_load_mid rfl 24 _ rfl _ _ rfl b.cells _ hrb Tryd.underlying24 rfl hib ?_
  refine wpList_load_mid rfl 31 _ rfl _ _ rfl c2.cells _ hrc Tryd.underlying31 rfl hic ?_
  go_wp2_with fail
  refine cDc.mono ?_
  rintro _ w9 ⟨rfl, hB9⟩
  clear cDc
  have hrs := range_below hrs hB9 (by omega)
  have hrb := range_below hrb hB9 (by omega)
  have hro := range_below hro hB9 (by omega)
  have hrc := range_below hrc hB9 (by omega)
  have hz9 : w.heap.size + 4 ≤ w9.heap.size := Nat.le_trans hz7 hB9.size
  have hB9 := hB7.trans (hB9.mono hB7.size)
  clear hB7 hz7
  go_upto_region 5 with (refine wpList_store_mid rfl 39 _ _ rfl _ 0 kx.toArray rfl rfl (there_newN _ _ _ (by first | exact ax.symm | (rw [ax]; rfl))) ixa ox ?_)
  go_name_world w10 hw10
  obtain ⟨hB10, hX, hXl, -⟩ := box1 hw10 (by first | exact lx | (rw [lx]; rfl))
  clear hw10
  have hrs := range_below hrs hB10 (by omega)
  have hrb := range_below hrb hB10 (by omega)
  have hro := range_below hro hB10 (by omega)
  have hrc := range_below hrc hB10 (by omega)
  have hB10 := hB9.trans (hB10.mono hB9.size)
  obtain ⟨X, hXe⟩ : ∃ X, Hid (w9.heap.size = X) := ⟨_, hide rfl⟩
  rw [hXe.out] at hX hXl hz9
  try rw [hXe.out]
  clear hXe hB9
  obtain ⟨x84, x44, x3, x43⟩ := PX0 hX
  have PS := Sl.parts hv hrs
  have s3 := PS.is
  have s43 := PS.ho
  have v3 := (Vt.four (range_left hrc : w10.rangeAt (w.heap.size + 1 + 1 + 1) 0 c2.v.cells)).2.2.2
  simp only [Nat.zero_add] at v3
  rw [s2] at v3
  clear PS
  go_upto_region 7 with fail
  clear x84 x44 x3 x43 s3 s43 v3 PX0 hrs
  have hcd : w10.rangeAt (w.heap.size + 1 + 1 + 1) 4 (v8 b.dig) := by
    have := Vt.dig (range_left hrc : w10.rangeAt (w.heap.size + 1 + 1 + 1) 0 c2.v.cells)
    rw [d2, Nat.zero_add] at this
    exact this
  have hiD : (Tryd.prog.info? 26).map (·.size) = some (v8 b.dig).length := by rw [v8_length, b.dig_len]; exact iszD
  try simp only [Act.put]
  refine wp_region_list ?_
  refine wpList_load_mid rfl 39 _ rfl _ _ rfl kx _ hX Tryd.underlying39 rfl ix ?_
  refine wpList_step fun K hK => ?_
  go_simp
  refine hK _ _ ?_
  clear hK K
  refine wpList_step fun K hK => ?_
  go_simp
  refine hK _ _ ?_
  clear hK K
  refine wpList_load_mid rfl 26 _ rfl _ _ rfl (v8 b.dig) _ hcd Tryd.underlying26 rfl hiD ?_
  go_wp2_with fail
  refine (cK w10 hB10).mono ?_
  rintro _ w11 ⟨rfl, hB11⟩
  clear cK
  have hrb := range_below hrb hB11 (by omega)
  have hro := range_below hro hB11 (by omega)
  have hrc := range_below hrc hB11 (by omega)
  have hX := range_below hX hB11 (by omega)
  have hcd := range_below hcd hB11 (by omega)
  have hXl := Nat.lt_of_lt_of_le hXl hB11.size
  have hB11 := hB10.trans (hB11.mono hB10.size)
  clear hB10
  go_upto_region 8 with (refine wpList_store_mid rfl 24 _ _ rfl _ 0 b.cells.toArray rfl rfl (there_newN _ _ _ rfl) hib (all_oneS b.one) ?_)
  go_name_world w12 hw12
  obtain ⟨hB12, hK, hKl, -⟩ := box1 hw12 rfl
  clear hw12
  have hrb := range_below hrb hB12 (by omega)
  have hro := range_below hro hB12 (by omega)
  have hrc := range_below hrc hB12 (by omega)
  have hX := range_below hX hB12 (by omega)
  have hcd := range_below hcd hB12 (by omega)
  have hB12 := hB11.trans (hB12.mono hB11.size)
  obtain ⟨KK, hKe⟩ : ∃ X, Hid (w11.heap.size = X) := ⟨_, hide rfl⟩
  rw [hKe.out] at hK hKl hXl
  try rw [hKe.out]
  clear hKe hB11
  have c37 : c2.cells.toArray.size = 37 := by simpa using Ce.len (hc2 w12 hB12).v
  have hic2 : (Tryd.prog.info? 31).map (·.size) = some c2.cells.toArray.size := by rw [c37]; exact iszCe
  have hco := all_oneS c2.one
  go_upto_region 9 with (first
    | (refine wpList_load_mid rfl 31 _ rfl _ _ rfl c2.cells _ hrc Tryd.underlying31 rfl hic ?_)
    | (refine wpList_store_mid rfl 31 _ _ rfl _ 0 c2.cells.toArray rfl rfl (there_newN _ _ _ c37.symm) hic2 hco ?_))
  go_name_world w13 hw13
  obtain ⟨hB13, hE, hEl, hTe⟩ := box1 hw13 (by simpa using c37)
  clear hw13
  have hTe : w13.there w12.heap.size 0 37 := hTe
  have hrb := range_below hrb hB13 (by omega)
  have hro := range_below hro hB13 (by omega)
  have hX := range_below hX hB13 (by omega)
  have hcd := range_below hcd hB13 (by omega)
  have hK := range_below hK hB13 (by omega)
  have hB13 := hB12.trans (hB13.mono hB12.size)
  obtain ⟨D, hDe⟩ : ∃ X, Hid (w12.heap.size = X) := ⟨_, hide rfl⟩
  rw [hDe.out] at hE hEl hTe hKl
  try rw [hDe.out]
  clear hDe hB12 hrc
  have cD := o.xdig_any w13 (ho.below hB13) hol
  try simp only [Act.put]
  refine wp_region_list ?_
  refine wpList_load_mid rfl 24 _ rfl _ _ rfl o.cells _ hro Tryd.underlying24 rfl hio ?_
  go_wp2_with fail
  refine cD.mono ?_
  rintro _ w14 ⟨rfl, hB14⟩
  clear cD
  have hrb := range_below hrb hB14 (by omega)
  have hro := range_below hro hB14 (by omega)
  have hX := range_below hX hB14 (by omega)
  have hcd := range_below hcd hB14 (by omega)
  have hK := range_below hK hB14 (by omega)
  have hE := range_below hE hB14 (by omega)
  have hTe := there_below hTe hB14 hEl
  have hEl := Nat.lt_of_lt_of_le hEl hB14.size
  have hB14 := hB13.trans (hB14.mono hB13.size)
  clear hB13
  have e32 : (v8 o.dig).toArray.size = 32 := by simpa using o.dig_len
  have hTe2 : w14.there D 4 (v8 o.dig).toArray.size := by rw [e32]; exact there_part1 hTe (by decide)
  have hoD := iszD2 o
  have ho1 := all_oneS (v8_one o.dig)
  go_upto_region 10 with (refine wpList_store_mid rfl 26 _ _ rfl _ 4 (v8 o.dig).toArray rfl rfl hTe2 hoD ho1 ?_)
  go_name_world w15 hw15
  have hE3 : w15.rangeAt D 0 (c2.withD o.dig).cells := by
    rw [← hw15]
    exact ce_putD hE hTe (by rw [o.dig_len]; exact (hc2 w14 hB14).v.dl.symm) (hc2 w14 hB14).v.dl
  have hrb : w15.rangeAt (w.heap.size + 1) 0 b.cells := by rw [← hw15]; exact World.rangeAt_setCells_apart hrb _ _ _ (.inl (by omega))
  have hro : w15.rangeAt (w.heap.size + 1 + 1) 0 o.cells := by rw [← hw15]; exact World.rangeAt_setCells_apart hro _ _ _ (.inl (by omega))
  have hX : w15.rangeAt X 0 kx := by rw [← hw15]; exact World.rangeAt_setCells_apart hX _ _ _ (.inl (by omega))
  have hcd : w15.rangeAt (w.heap.size + 1 + 1 + 1) 4 (v8 b.dig) := by rw [← hw15]; exact World.rangeAt_setCells_apart hcd _ _ _ (.inl (by omega))
  have hK : w15.rangeAt KK 0 b.cells := by rw [← hw15]; exact World.rangeAt_setCells_apart hK _ _ _ (.inl (by omega))
  have hB15 : Below w.heap.size w w15 := by rw [← hw15]; exact below_sets (by omega) _ _ _ hB14
  have hEl : D < w15.heap.size := by rw [← hw15, setCells_size]; exact hEl
  clear hw15 hTe hTe2 hE hB14
  have hi3 : (Tryd.prog.info? 31).map (·.size) = some (c2.withD o.dig).cells.length := by rw [Ce.len (Ce.withD_at (hc2 w15 hB15) o.dig_len (digs_ok o)).v]; exact iszCe
  have hDD : w15.rangeAt D 4 (v8 o.dig) := by
    have := Vt.dig (range_left hE3 : w15.rangeAt D 0 (c2.withD o.dig).v.cells)
    rw [Nat.zero_add] at this
    exact this
  obtain ⟨e3, he3⟩ : ∃ e3, Hid ((c2.withD o.dig).cells = e3) := ⟨_, hide rfl⟩
  simp only [he3.out] at cD3
  rw [he3.out] at hE3 hi3
  clear he3
  have cD4 := cD3 w15 hB15
  clear cD3
  try simp only [Act.put]
  refine wp_region_list ?_
  refine wpList_load_mid rfl 39 _ rfl _ _ rfl kx _ hX Tryd.underlying39 rfl ix ?_
  refine wpList_load_mid rfl 24 _ rfl _ _ rfl o.cells _ hro Tryd.underlying24 rfl hio ?_
  refine wpList_load_mid rfl 31 _ rfl _ _ rfl e3 _ hE3 Tryd.underlying31 rfl hi3 ?_
  rw [if_pos HDD.out, hkx.out] at cD4
  have heq : ∀ w : World, (binOp .eql 26 (.agg (v8 o.dig).toArray) (.agg (v8 b.dig).toArray)).run Tryd.prog w = .ok (.bool true) w := fun w => by rw [eql_any _ _ (Bat.dig_len _) (Bat.dig_len _)]; simp [HDD.out]
  go_wp2_with fail
  refine cD4.mono ?_
  rintro _ w16 ⟨rfl, hB16⟩
  clear cD4
  have hrb := range_below hrb hB16 (by omega)
  have hX := range_below hX hB16 (by omega)
  have hcd := range_below hcd hB16 (by omega)
  have hK := range_below hK hB16 (by omega)
  have hDD := range_below hDD hB16 (by omega)
  have hEl := Nat.lt_of_lt_of_le hEl hB16.size
  have hB16 := hB15.trans (hB16.mono hB15.size)
  clear hB15 hE3 hro
  go_upto_region 11 with (refine wpList_store_mid rfl 39 _ _ rfl _ 0 kx.toArray rfl rfl (there_newN _ _ _ (by first | exact ax.symm | (rw [ax]; rfl))) ixa ox ?_)
  go_name_world w17 hw17
  obtain ⟨hB17, hY, hYl, -⟩ := box1 hw17 (by first | exact lx | (rw [lx]; rfl))
  clear hw17
  have hrb := range_below hrb hB17 (by omega)
  have hX := range_below hX hB17 (by omega)
  have hcd := range_below hcd hB17 (by omega)
  have hK := range_below hK hB17 (by omega)
  have hDD := range_below hDD hB17 (by omega)
  have hB17 := hB16.trans (hB17.mono hB16.size)
  obtain ⟨Y, hYe⟩ : ∃ X, Hid (w16.heap.size = X) := ⟨_, hide rfl⟩
  rw [hYe.out] at hY hYl hEl
  try rw [hYe.out]
  clear hYe hB16
  have hiO : (Tryd.prog.info? 26).map (·.size) = some (v8 o.dig).length := by rw [v8_length, o.dig_len]; exact iszD
  try simp only [Act.put]
  refine wp_region_list ?_
  refine wpList_step fun K hK => ?_
  go_simp
  refine hK _ _ ?_
  clear hK K
  refine wpList_step fun K hK => ?_
  go_simp
  refine hK _ _ ?_
  clear hK K
  refine wpList_load_mid rfl 26 _ rfl _ _ rfl (v8 o.dig) _ hDD Tryd.underlying26 rfl hiO ?_
  refine wpList_step fun K hK => ?_
  go_simp
  refine hK _ _ ?_
  clear hK K
  refine wpList_step fun K hK => ?_
  go_simp
  refine hK _ _ ?_
  clear hK K
  refine wpList_load_mid rfl 26 _ rfl _ _ rfl (v8 b.dig) _ hcd Tryd.underlying26 rfl hiD ?_
  go_upto_region 12 with fail
  clear hDD hcd heq
  obtain ⟨w8, hw8⟩ : ∃ w8, w17.drew = w8 := ⟨_, rfl⟩
  have hB8 : Below w17.heap.size w17 w8 := by rw [← hw8]; exact (Below.refl _ _).drew
  have hrb := range_below hrb hB8 (by omega)
  have hX := range_below hX hB8 (by omega)
  have hK := range_below hK hB8 (by omega)
  have hY := range_below hY hB8 (by omega)
  have hYl := Nat.lt_of_lt_of_le hYl hB8.size
  have hBB := hB17.trans (hB8.mono hB17.size)
  clear hB17 hB8
  have csm := same_self b w8 (hb.below hBB)
  have cL := fun w' (h : Below w.heap.size w w') => lives18_any w' (hG.below h)
  try simp only [Act.put]
  refine hs_begin (S := (Below w8.heap.size w8)) 27 rfl (by kernel_rfl) ?_
  rw [hw8]
  clear hw8
  have hS : (Below w8.heap.size w8) w8 := Below.refl _ _
  refine hs_take (i := 0) (d := some 109) (v := ?_) rfl (by kernel_rfl) (by kernel_rfl) (by kernel_rfl) (by rfl) ?_ hS rfl ?_
  rotate_left
  · intro w' hw
    go_simp
    try with_reducible rfl
  simp only [Act.put, List.setIfInBounds_toArray, List.set_cons_zero, List.set_cons_succ]
  refine hs_take (i := 1) (d := some 110) (v := ?_) rfl (by kernel_rfl) (by kernel_rfl) (by kernel_rfl) (by rfl) ?_ hS rfl ?_
  rotate_left
  · intro w' hw
    go_simp
    try with_reducible rfl
  simp only [Act.put, List.setIfInBounds_toArray, List.set_cons_zero, List.set_cons_succ]
  refine hs_take (i := 2) (d := some 111) (v := .agg b.cells.toArray) rfl (by kernel_rfl) (by kernel_rfl) (by kernel_rfl) (by rfl) (fun w' hw => ex_mid rfl rfl (range_below hK hw (by omega)) Tryd.underlying24 rfl hib) hS rfl ?_
  simp only [Act.put, List.setIfInBounds_toArray, List.set_cons_zero, List.set_cons_succ]
  refine hs_take (i := 3) (d := some 112) (v := .agg b.cells.toArray) rfl (by kernel_rfl) (by kernel_rfl) (by kernel_rfl) (by rfl) (fun w' hw => ex_mid rfl rfl (range_below hrb hw (by omega)) Tryd.underlying24 rfl hib) hS rfl ?_
  simp only [Act.put, List.setIfInBounds_toArray, List.set_cons_zero, List.set_cons_succ]
  refine hs_call (i := 4) (d := some 113) rfl (by kernel_rfl) (by rfl) (by go_simp; first | done | exact ⟨rfl, rfl⟩ | with_reducible rfl) rfl ?_
  refine (csm).mono ?_
  rintro e' v1 ⟨rfl, g1⟩
  have hS : (Below w8.heap.size w8) v1 := g1
  refine ⟨_, rfl, hS, ?_⟩
  simp only [Act.put, List.setIfInBounds_toArray, List.set_cons_zero, List.set_cons_succ]
  refine hs_take (i := 5) (d := some 114) (v := ?_) rfl (by kernel_rfl) (by kernel_rfl) (by kernel_rfl) (by rfl) ?_ hS rfl ?_
  rotate_left
  · intro w' hw
    go_simp
    try with_reducible rfl
  simp only [Act.put, List.setIfInBounds_toArray, List.set_cons_zero, List.set_cons_succ]
  refine hs_take (i := 6) (d := some 115) (v := ?_) rfl (by kernel_rfl) (by kernel_rfl) (by kernel_rfl) (by rfl) ?_ hS rfl ?_
  rotate_left
  · intro w' hw
    go_simp
    try with_reducible rfl
  simp only [Act.put, List.setIfInBounds_toArray, List.set_cons_zero, List.set_cons_succ]
  refine hs_take (i := 7) (d := some 116) (v := ?_) rfl (by kernel_rfl) (by kernel_rfl) (by kernel_rfl) (by rfl) ?_ hS rfl ?_
  rotate_left
  · intro w' hw
    go_simp
    try with_reducible rfl
  simp only [Act.put, List.setIfInBounds_toArray, List.set_cons_zero, List.set_cons_succ]
  refine hs_take (i := 8) (d := some 117) (v := ?_) rfl (by kernel_rfl) (by kernel_rfl) (by kernel_rfl) (by rfl) ?_ hS rfl ?_
  rotate_left
  · intro w' hw
    go_simp
    try with_reducible rfl
  simp only [Act.put, List.setIfInBounds_toArray, List.set_cons_zero, List.set_cons_succ]
  refine hs_take (i := 9) (d := some 118) (v := ?_) rfl (by kernel_rfl) (by kernel_rfl) (by kernel_rfl) (by rfl) ?_ hS rfl ?_
  rotate_left
  · intro w' hw
    go_simp
    try with_reducible rfl
  simp only [Act.put, List.setIfInBounds_toArray, List.set_cons_zero, List.set_cons_succ]
  refine hs_take (i := 10) (d := some 119) (v := .bool true) rfl (by kernel_rfl) (by kernel_rfl) (by kernel_rfl) (by rfl) (fun w' hw => by go_simp) hS rfl ?_
  simp only [Act.put, List.setIfInBounds_toArray, List.set_cons_zero, List.set_cons_succ]
  refine hs_take (i := 11) (d := some 120) (v := ?_) rfl (by kernel_rfl) (by kernel_rfl) (by kernel_rfl) (by rfl) ?_ hS rfl ?_
  rotate_left
  · intro w' hw
    go_simp
    try with_reducible rfl
  simp only [Act.put, List.setIfInBounds_toArray, List.set_cons_zero, List.set_cons_succ]
  refine hs_take (i := 12) (d := some 121) (v := ?_) rfl (by kernel_rfl) (by kernel_rfl) (by kernel_rfl) (by rfl) ?_ hS rfl ?_
  rotate_left
  · intro w' hw
    go_simp
    try with_reducible rfl
  simp only [Act.put, List.setIfInBounds_toArray, List.set_cons_zero, List.set_cons_succ]
  refine hs_take (i := 13) (d := some 122) (v := ?_) rfl (by kernel_rfl) (by kernel_rfl) (by kernel_rfl) (by rfl) ?_ hS rfl ?_
  rotate_left
  · intro w' hw
    go_simp
    try with_reducible rfl
  simp only [Act.put, List.setIfInBounds_toArray, List.set_cons_zero, List.set_cons_succ]
  refine hs_take (i := 14) (d := some 123) (v := ?_) rfl (by kernel_rfl) (by kernel_rfl) (by kernel_rfl) (by rfl) ?_ hS rfl ?_
  rotate_left
  · intro w' hw
    go_simp
    try with_reducible rfl
  simp only [Act.put, List.setIfInBounds_toArray, List.set_cons_zero, List.set_cons_succ]
  refine hs_take (i := 15) (d := some 124) (v := ?_) rfl (by kernel_rfl) (by kernel_rfl) (by kernel_rfl) (by rfl) ?_ hS rfl ?_
  rotate_left
  · intro w' hw
    go_simp
    try with_reducible rfl
  simp only [Act.put, List.setIfInBounds_toArray, List.set_cons_zero, List.set_cons_succ]
  refine hs_take (i := 16) (d := some 125) (v := .agg kx.toArray) rfl (by kernel_rfl) (by kernel_rfl) (by kernel_rfl) (by rfl) (fun w' hw => ex_mid rfl rfl (range_below hY hw (by omega)) Tryd.underlying39 rfl ix) hS rfl ?_
  simp only [Act.put, List.setIfInBounds_toArray, List.set_cons_zero, List.set_cons_succ]
  refine hs_take (i := 18) (d := some 127) (v := .agg kx.toArray) rfl (by kernel_rfl) (by kernel_rfl) (by kernel_rfl) (by rfl) (fun w' hw => ex_mid rfl rfl (range_below hX hw (by omega)) Tryd.underlying39 rfl ix) hS rfl ?_
  simp only [Act.put, List.setIfInBounds_toArray, List.set_cons_zero, List.set_cons_succ]
  refine hs_call (i := 17) (d := some 126) rfl (by kernel_rfl) (by rfl) (by go_simp; first | done | exact ⟨rfl, rfl⟩ | with_reducible rfl) rfl ?_
  refine (cO v1).mono ?_
  rintro e' v2 ⟨rfl, g2⟩
  have hS : (Below w8.heap.size w8) v2 := g1.trans (g2.mono g1.size)
  refine ⟨_, rfl, hS, ?_⟩
  simp only [Act.put, List.setIfInBounds_toArray, List.set_cons_zero, List.set_cons_succ]
  have g12 := g1.trans (g2.mono g1.size)
  refine hs_call (i := 19) (d := some 128) rfl (by kernel_rfl) (by rfl) (by go_simp; first | done | exact ⟨rfl, rfl⟩ | with_reducible rfl) rfl ?_
  refine (cO v2).mono ?_
  rintro e' v3 ⟨rfl, g3⟩
  have hS : (Below w8.heap.size w8) v3 := g12.trans (g3.mono g12.size)
  refine ⟨_, rfl, hS, ?_⟩
  simp only [Act.put, List.setIfInBounds_toArray, List.set_cons_zero, List.set_cons_succ]
  have g13 := g12.trans (g3.mono g12.size)
  have hBv := hBB.trans (g13.mono hBB.size)
  refine hs_call (i := 20) (d := some 129) rfl (by kernel_rfl) (by rfl) (by go_simp; first | done | exact ⟨rfl, rfl⟩ | with_reducible rfl) rfl ?_
  refine (cS v3 hBv).mono ?_
  rintro e' v4 ⟨rfl, g4⟩
  have hS : (Below w8.heap.size w8) v4 := g13.trans (g4.mono g13.size)
  refine ⟨_, rfl, hS, ?_⟩
  simp only [Act.put, List.setIfInBounds_toArray, List.set_cons_zero, List.set_cons_succ]
  have g14 := g13.trans (g4.mono g13.size)
  refine hs_take (i := 21) (d := some 130) (v := ?_) rfl (by kernel_rfl) (by kernel_rfl) (by kernel_rfl) (by rfl) ?_ hS rfl ?_
  rotate_left
  · intro w' hw
    go_simp
    try with_reducible rfl
  simp only [Act.put, List.setIfInBounds_toArray, List.set_cons_zero, List.set_cons_succ]
  refine hs_take (i := 22) (d := some 131) (v := ?_) rfl (by kernel_rfl) (by kernel_rfl) (by kernel_rfl) (by rfl) ?_ hS rfl ?_
  rotate_left
  · intro w' hw
    go_simp
    try with_reducible rfl
  simp only [Act.put, List.setIfInBounds_toArray, List.set_cons_zero, List.set_cons_succ]
  refine hs_take (i := 23) (d := some 132) (v := ?_) rfl (by kernel_rfl) (by kernel_rfl) (by kernel_rfl) (by rfl) ?_ hS rfl ?_
  rotate_left
  · intro w' hw
    go_simp
    try with_reducible rfl
  simp only [Act.put, List.setIfInBounds_toArray, List.set_cons_zero, List.set_cons_succ]
  have hBl := hBB.trans (g14.mono hBB.size)
  refine hs_call (i := 24) (d := some 133) rfl (by kernel_rfl) (by rfl) (by go_simp; first | done | exact ⟨rfl, rfl⟩ | with_reducible rfl) rfl ?_
  refine (cL v4 hBl).mono ?_
  rintro e' v5 ⟨rfl, g5⟩
  have hS : (Below w8.heap.size w8) v5 := g14.trans (g5.mono g14.size)
  refine ⟨_, rfl, hS, ?_⟩
  simp only [Act.put, List.setIfInBounds_toArray, List.set_cons_zero, List.set_cons_succ]
  refine hs_take (i := 25) (d := some 134) (v := ?_) rfl (by kernel_rfl) (by kernel_rfl) (by kernel_rfl) (by rfl) ?_ hS rfl ?_
  rotate_left
  · intro w' hw
    go_simp
    try with_reducible rfl
  simp only [Act.put, List.setIfInBounds_toArray, List.set_cons_zero, List.set_cons_succ]
  refine hs_take (i := 26) (d := some 8) (v := ?_) rfl (by kernel_rfl) (by kernel_rfl) (by kernel_rfl) (by rfl) ?_ hS rfl ?_
  rotate_left
  · intro w' hw
    go_simp
    try with_reducible rfl
  simp only [Act.put, List.setIfInBounds_toArray, List.set_cons_zero, List.set_cons_succ]
  refine hs_done (by kernel_rfl) ?_
  have hBf := hBl.trans (g5.mono hBl.size)
  go_wp2_with fail
  go_ret
  exact ⟨rfl, hBf⟩
end Go.Proofs.YtogmkcabndgllabDoor
