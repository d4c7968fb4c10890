/- the walk of LeadersOne -/
import Derived.Test.YtnndlgdlligjbaaWFew
namespace Go.Proofs.Ytnndlgdlligjbaa
open Go.RowKit Go.Shelf Go.Deep
theorem count_rangeF (p : Nat → Bool) (m : Nat) : ∀ N, ((List.range N).filter p).count m = if m < N ∧ p m = true then 1 else 0
  | 0 => by simp
  | N + 1 => by
    rw [List.range_succ, List.filter_append, List.count_append, count_rangeF p m N]
    by_cases hm : m = N
    · subst hm
      cases hp : p m <;> simp [hp]
    · have : (List.filter p [N]).count m = 0 := by
        cases hp : p N
        · simp [hp]
        · simp [hp, List.count_singleton]; omega
      rw [this, Nat.add_zero]
      have : (m < N + 1 ∧ p m = true) ↔ (m < N ∧ p m = true) := ⟨fun h => ⟨by omega, h.2⟩, fun h => ⟨by omega, h.2⟩⟩
      simp only [this]
theorem listN_form (N : Nat) (E : Int) (zs : List Int) : ∃ p, listN N E zs = (List.range N).filter p := by
  unfold listN
  split
  · exact ⟨fun _ => true, (filter_true N).symm⟩
  · exact ⟨_, rfl⟩
theorem listN_count {N : Nat} {E : Int} {zs : List Int} {m : Nat} (h : m ∈ listN N E zs) : (listN N E zs).count m = 1 := by
  obtain ⟨p, hp⟩ := listN_form N E zs
  rw [hp] at h ⊢
  rw [count_rangeF, if_pos]
  simpa using h
theorem listN_lt {N : Nat} {E : Int} {zs : List Int} {m : Nat} (h : m ∈ listN N E zs) : m < N := by
  obtain ⟨p, hp⟩ := listN_form N E zs
  rw [hp] at h
  simp at h
  exact h.1
theorem listN_le (N : Nat) (E : Int) (zs : List Int) : (listN N E zs).length ≤ N := by
  obtain ⟨p, hp⟩ := listN_form N E zs
  rw [hp]; exact filter_le _ _
theorem listN_enough {N : Nat} (h4 : 4 ≤ N) (E : Int) (zs : List Int) : N / 3 + 1 ≤ (listN N E zs).length := by
  unfold listN
  split
  · rw [List.length_range]; omega
  · omega
theorem ownI_some {N E b : Nat} {L : List Nat} (hl : L ≠ []) (hlt : ∀ m ∈ L, m < N) : ∃ m, m ∈ L ∧ ownI N E (ints L) b = (m : Int) := by
  obtain ⟨x, hx⟩ : ∃ x, x ∈ L := List.exists_mem_of_ne_nil L hl
  obtain ⟨j, hj⟩ := own_has (N := N) (f := (b + E) % N) (p := memB (ints L)) (hlt x hx) (decide_eq_true (mem_ints.2 hx))
  have := own_some hj
  refine ⟨j, mem_ints.1 (of_decide_eq_true this.1), ?_⟩
  unfold ownI; rw [hj]; rfl
theorem buckets_mem {N B E n b : Nat} {zs : List Int} (hN : 1 ≤ N) (hz : (n : Int) ∈ zs) (h : b ∈ bucketsN N B E zs n) : b < B ∧ ownI N E zs b = (n : Int) := by
  unfold bucketsN firstU otherU at h
  simp only [List.mem_append, List.mem_filter, List.mem_range, decide_eq_true_eq] at h
  rcases h with ⟨h1, h2⟩ | ⟨h1, h2⟩
  · refine ⟨h1, ?_⟩
    unfold ownI
    rw [own_mod, own_first (by omega) (by rw [h2]; exact decide_eq_true hz), h2]; rfl
  · exact ⟨h1, h2.2⟩
theorem buckets_count {N B E n b : Nat} {zs : List Int} (hN : 1 ≤ N) (hz : (n : Int) ∈ zs) (hb : b < B) : (bucketsN N B E zs n).count b = if ownI N E zs b = (n : Int) then 1 else 0 := by
  unfold bucketsN firstU otherU
  rw [List.count_append, count_rangeF, count_rangeF]
  by_cases h1 : (b + E) % N = n
  · have h2 : ownI N E zs b = (n : Int) := by
      unfold ownI
      rw [own_mod, own_first (by omega) (by rw [h1]; exact decide_eq_true hz), h1]; rfl
    simp [h1, h2, hb]
  · by_cases h2 : ownI N E zs b = (n : Int)
    · simp [h1, h2, hb]
    · simp [h1, h2]
theorem buckets_len (N B E n : Nat) (zs : List Int) : (bucketsN N B E zs n).length ≤ B + B := by
  unfold bucketsN firstU otherU
  rw [List.length_append]
  exact Nat.add_le_add (filter_le _ _) (filter_le _ _)
/-- how often a bucket was met with these leaders -/
def mcount (N E : Nat) (zs : List Int) (pre : List Nat) (b : Nat) : Nat := pre.countP fun (n : Nat) => decide (ownI N E zs b = (n : Int))
theorem mcount_snoc {N E : Nat} {zs : List Int} {pre : List Nat} {n b : Nat} : mcount N E zs (pre ++ [n]) b = mcount N E zs pre b + if ownI N E zs b = (n : Int) then 1 else 0 := by
  unfold mcount
  rw [List.countP_append]
  congr 1
  by_cases h : ownI N E zs b = (n : Int) <;> simp [h]
theorem mcount_all {N E b m : Nat} {zs : List Int} {L : List Nat} (h : ownI N E zs b = (m : Int)) (hc : L.count m = 1) : mcount N E zs L b = 1 := by
  unfold mcount
  rw [← hc, List.count]
  apply List.countP_congr
  intro x _
  rw [h]
  simp
  omega
theorem mcount_le (N E : Nat) (zs : List Int) (pre : List Nat) (b : Nat) : mcount N E zs pre b ≤ pre.length := List.countP_le_length
theorem RowI.setCell {w : World} {a : Option Addr} {zs : List Int} (h : RowI w a zs) {p : Addr} {v : Value} (hp : ∀ x, a = some x → x.block ≠ p.block) : RowI (w.setCell p v) a zs := by
  refine ⟨h.1, ?_⟩
  rcases h.2 with h | ⟨b, off, rfl, h1, h2⟩
  · exact Or.inl h
  · refine Or.inr ⟨b, off, rfl, by simpa using h1, fun j hj => ?_⟩
    exact (World.cell?_of_block (w := w) (w' := w.setCell p v) (a := ⟨b, off + j, none⟩) (blk_setCell_other _ _ _ _ (hp ⟨b, off, none⟩ rfl))).trans (h2 j hj)
theorem own_set2 {w : World} {base : Nat} {v : Value} {l : List Nat} (h : w.ownsRow base 3 1 v l.length (vals l)) (hl : l.length ≤ 100000) :
    ∃ a cap, v = .slice a l.length cap ∧ RowI w a (ints l) ∧ ∀ x, a = some x → base ≤ x.block := by
  obtain ⟨a, cap, rfl, hr⟩ := own_set h hl
  refine ⟨a, cap, rfl, hr, fun x hx => ?_⟩
  subst hx
  rcases h.2 with ⟨h0, _⟩ | ⟨g, cap', cur, h0, hb, _⟩
  · cases h0
  · cases h0; exact hb
theorem row_congr {w : World} {b t m : Nat} {f g : Nat → Nat} (h : w.rowIs b t m fun j => .int .i64 (f j : Int)) (hg : ∀ j, j < m → f j = g j) : w.rowIs b t m fun j => .int .i64 (g j : Int) :=
  h.congr (fun j hj => by show Value.int .i64 (f j : Int) = Value.int .i64 (g j : Int); rw [hg j hj])
theorem row_inc {w : World} {b t m : Nat} {f g : Nat → Nat} (h : w.rowIs b t m fun j => .int .i64 (f j : Int)) (p : Nat) (hg : ∀ j, j < m → g j = if j = p then f p + 1 else f j) : (w.setCell ⟨b, p, none⟩ (.int .i64 ((f p : Int) + 1))).rowIs b t m fun j => .int .i64 (g j : Int) := by
  refine (h.set p (.int .i64 ((f p : Int) + 1))).congr ?_
  intro j hj
  show (if j = p then _ else _) = _
  rw [hg j hj]
  split
  · congr 1
  · rfl
theorem count_take_succ {l : List Nat} {j b : Nat} (h : j < l.length) : (l.take (j + 1)).count b = (l.take j).count b + if b = l[j] then 1 else 0 := by
  rw [List.take_succ_eq_append_getElem h, List.count_append]
  congr 1
  by_cases e : b = l[j]
  · simp [e]
  · have : l[j] ≠ b := fun h => e h.symm
    simp [e, this]
set_option maxRecDepth 100000 in
set_option maxHeartbeats 4000000 in
theorem one_walk (c : Cfg) (x : Int) (a : Option Addr) (cap : Nat) (zs : List Int) (w : World) (hr : RowI w a zs) :
    Calls Try.prog 4 #[(.agg #[.int .i64 c.n, .int .i64 c.cl, .int .i64 c.wi, .int .i64 c.bu, .int .i64 c.ca, .int .i64 c.sl, .int .i64 c.rq, .int .i64 c.ti, .int .i64 c.pe, .int .i64 c.la]), .int .i64 x, .slice a zs.length cap] w fun e w' => e = .returned (.bool true) ∧ Below w.heap.size w w' := by
  have hB1 : Below w.heap.size w (w.alloc (.cells #[.int .i64 c.n, .int .i64 c.cl, .int .i64 c.wi, .int .i64 c.bu, .int .i64 c.ca, .int .i64 c.sl, .int .i64 c.rq, .int .i64 c.ti, .int .i64 c.pe, .int .i64 c.la] 23)) := (Below.refl _ w).alloc (Nat.le_refl _) _
  have k0 := CfgAt.new w c
  have hs1 : (w.alloc (.cells #[.int .i64 c.n, .int .i64 c.cl, .int .i64 c.wi, .int .i64 c.bu, .int .i64 c.ca, .int .i64 c.sl, .int .i64 c.rq, .int .i64 c.ti, .int .i64 c.pe, .int .i64 c.la] 23)).heap.size = w.heap.size + 1 := by simp only [World.size_alloc]
  have c1 := fun w => lgood_any c w
  have fin : ∀ {W W' : World}, Below w.heap.size w W → Below W.heap.size W W' → Below w.heap.size w W' := fun h k => h.trans (k.mono h.size)
  by_cases hl : 200 < zs.length
  · have hl' : (200 : Int) < (zs.length : Int) := by omega
    clear hr k0 hs1 c1
    go_enter Try.func4, Try.ntmps4
    go_wp2_with fail
    refine (lives11_any _).mono ?_
    rintro e w9 ⟨rfl, hb9⟩
    go_wp2_with fail
    go_ret
    exact ⟨rfl, fin hB1 hb9⟩
  have d3 : decide ((200 : Int) < (zs.length : Int)) = false := decide_eq_false (by omega)
  go_enter Try.func4, Try.ntmps4
  go_wp2_with fail
  obtain ⟨w1, hw1⟩ : ∃ w1, w.alloc (.cells #[.int .i64 c.n, .int .i64 c.cl, .int .i64 c.wi, .int .i64 c.bu, .int .i64 c.ca, .int .i64 c.sl, .int .i64 c.rq, .int .i64 c.ti, .int .i64 c.pe, .int .i64 c.la] 23) = w1 := ⟨_, rfl⟩
  rw [hw1] at hB1 k0 hs1 ⊢
  clear hw1
  cases hm : goodC c
  · simp only [errC_no hm] at c1
    clear hm
    refine (c1 w1).mono ?_
    rintro e w4 ⟨rfl, hb4⟩
    have hB4 := fin hB1 hb4
    clear hB1 hb4 k0 hs1 c1 hr
    go_wp2_with fail
    refine (lives11_any _).mono ?_
    rintro e w9 ⟨rfl, hb9⟩
    go_wp2_with fail
    go_ret
    exact ⟨rfl, fin hB4 hb9⟩
  · simp only [errC_yes hm] at c1
    refine (c1 w1).mono ?_
    rintro e w4 ⟨rfl, hb4⟩
    have hB4 := fin hB1 hb4
    have k4 := k0.below hb4
    have HM := hide hm
    clear hB1 hb4 k0 hs1 c1 hm
    by_cases hx1 : x < 1
    · clear k4
      go_wp2_with fail
      refine (lives11_any _).mono ?_
      rintro e w9 ⟨rfl, hb9⟩
      go_wp2_with fail
      go_ret
      exact ⟨rfl, fin hB4 hb9⟩
    · by_cases hx2 : 1048576 < x
      · clear k4
        go_wp2_with fail
        refine (lives11_any _).mono ?_
        rintro e w9 ⟨rfl, hb9⟩
        go_wp2_with fail
        go_ret
        exact ⟨rfl, fin hB4 hb9⟩
      · obtain ⟨E, rfl⟩ := Int.eq_ofNat_of_zero_le (show 0 ≤ x by omega)
        have hE1 : 1 ≤ E := by omega
        have hE2 : E ≤ 1048576 := by omega
        obtain ⟨N, B, ok⟩ := cfgOk HM.out
        have HOK := hide ok
        have hN1 : 1 ≤ N := by have := ok.n4; omega
        have hN64 := ok.n64
        have hB64 : B ≤ 64 := by have := ok.bn; omega
        have HMAY := hide (mayC_mk HM.out hE1 hE2)
        have d1 : decide ((E : Int) < 1) = false := decide_eq_false (by omega)
        have d5 : decide ((1048576 : Int) < (E : Int)) = false := decide_eq_false (by omega)
        obtain ⟨p0, p1, p2, p3, p4, p5, p6, p7, p8, p9⟩ := k4.cells
        clear ok hx1 hx2
        have cL := list_any c (E : Int) a cap zs w4 (hr.below hB4)
        rw [listL_yes HMAY.out HOK.out.n] at cL
        have hcnt : Hid (∀ m ∈ listN N (E : Int) zs, (listN N (E : Int) zs).count m = 1) := hide (fun m h => listN_count h)
        have hlt : Hid (∀ m ∈ listN N (E : Int) zs, m < N) := hide (fun m h => listN_lt h)
        have hle : (listN N (E : Int) zs).length ≤ 64 := Nat.le_trans (listN_le _ _ _) hN64
        have hen : N / 3 + 1 ≤ (listN N (E : Int) zs).length := listN_enough HOK.out.n4 _ _
        have cS := fun w => some_any (N : Int) w
        simp only [someI_nat HOK.out.n4 HOK.out.n64 HOK.out.n3] at cS
        obtain ⟨so, hso⟩ : ∃ so, Hid (N / 3 + 1 = so) := ⟨_, hide rfl⟩
        rw [hso.out] at hen
        simp only [hso.out] at cS
        have hso1 : 1 ≤ so := by rw [← hso.out]; omega
        obtain ⟨L, hL⟩ : ∃ L, Hid (listN N (E : Int) zs = L) := ⟨_, hide rfl⟩
        rw [hL.out] at cL hcnt hlt hle hen
        have hen' : ¬ (L.length : Int) < (so : Int) := by omega
        have d6 : decide (L.length < so) = false := decide_eq_false (by omega)
        have hne : Hid (L ≠ []) := hide (fun h => by rw [h] at hen; simp at hen; omega)
        go_wp2_with fail
        refine cL.mono ?_
        rintro e w6 ⟨v, rfl, hrow, hb6⟩
        obtain ⟨va, vcap, rfl, hri⟩ := own_set hrow (by omega)
        have hB6 := fin hB4 hb6
        have k6 := k4.below hb6
        clear p0 p1 p2 p3 p4 p5 p6 p7 p8 p9 d1 d3 d5 cL hrow
        obtain ⟨p0, -, -, p3, -, -, -, -, -, -⟩ := k6.cells
        rw [HOK.out.n] at p0
        rw [HOK.out.b] at p3
        have hmk := run_make_row' (P := Try.prog) 24 3 (.int .i64 0) 8 Try.underlying24 info3 rfl .i64 .i64 B (by omega) (by omega) w6
        have r0 := World.rowIs_made w6 (.int .i64 0) B 3
        have hb7 : Below w6.heap.size w6 (w6.alloc (.cells (madeCells #[.int .i64 0] B) 3)) := (Below.refl _ _).alloc (Nat.le_refl _) _
        have r1 : (w6.alloc (.cells (madeCells #[.int .i64 0] B) 3)).rowIs w6.heap.size 3 B (fun j => .int .i64 ((mcount N E (ints L) [] j : Nat) : Int)) := r0.congr (fun j _ => by simp [mcount])
        go_wp2_with (go_at_call 21; refine (cS _).mono ?_; rintro e w8 ⟨rfl, hx⟩; obtain rfl := hx.symm; clear hx)
        obtain ⟨w7, hw7⟩ : ∃ w7, w6.alloc (.cells (madeCells #[.int .i64 0] B) 3) = w7 := ⟨_, rfl⟩
        have hs7 : w6.heap.size < w7.heap.size := by rw [← hw7]; simp
        rw [hw7] at r1 hb7 ⊢
        clear hw7 hmk r0 p0 p3 cS
        go_loopw [47] (fun iv wr => ∃ k : Nat, k ≤ L.length ∧ iv = .int .i64 (k : Int) ∧ wr.rowIs w6.heap.size 3 B (fun j => .int .i64 ((mcount N E (ints L) (L.take k) j : Nat) : Int)) ∧ Below w6.heap.size w6 wr) (fun iv _ => L.length - (intOf iv).toNat)
        case atStart => exact ⟨0, by omega, rfl, r1, hb7⟩
        case round =>
          obtain ⟨k, hk, rfl, R, hb⟩ := hrel
          have hBr := fin hB6 hb
          by_cases hkl : k < L.length
          · have hkl' : k < (ints L).length := by rw [ints_length]; exact hkl
            have hkI : (k : Int) < (L.length : Int) := by omega
            obtain ⟨bb, off, rfl, hcx⟩ := rowI_cell hri hb hkl'
            have hge : (ints L)[k] = ((L[k] : Nat) : Int) := by simp [ints]
            rw [hge] at hcx
            have hmemN : Hid (((L[k] : Nat) : Int) ∈ ints L) := hide (mem_ints.2 (List.getElem_mem hkl))
            have hltN := hlt.out _ (List.getElem_mem hkl)
            have hstep : Hid (L.take (k + 1) = L.take k ++ [L[k]]) := hide (List.take_succ_eq_append_getElem hkl)
            have hpl : (L.take k).length ≤ 64 := by rw [List.length_take]; omega
            generalize L[k] = n at *
            generalize L.take k = pre at *
            clear hge hkl'
            have hrr : RowI wr (some ⟨bb, off, none⟩) (ints L) := hri.below hb
            have cB := buckets_any c (E : Int) (some ⟨bb, off, none⟩) vcap (ints L) (n : Int) wr hrr (by rw [ints_length]; omega)
            rw [bucketsL_yes HMAY.out HOK.out.n HOK.out.b hltN hmemN.out, ints_length] at cB
            have hbm : Hid (∀ b ∈ bucketsN N B E (ints L) n, b < B ∧ ownI N E (ints L) b = (n : Int)) := hide (fun b h => buckets_mem hN1 hmemN.out h)
            have hbc : Hid (∀ b, b < B → (bucketsN N B E (ints L) n).count b = if ownI N E (ints L) b = (n : Int) then 1 else 0) := hide (fun b h => buckets_count hN1 hmemN.out h)
            have hbl : (bucketsN N B E (ints L) n).length ≤ 128 := Nat.le_trans (buckets_len _ _ _ _ _) (by omega)
            generalize bucketsN N B E (ints L) n = bl at *
            have kr := k6.below hb
            obtain ⟨p0, p1, p2, p3, p4, p5, p6, p7, p8, p9⟩ := kr.cells
            go_wp2_with fail
            refine cB.mono ?_
            rintro e w8 ⟨v, rfl, hrow8, hb8⟩
            obtain ⟨v8, c8, rfl, hr8, hap⟩ := own_set2 hrow8 (by omega)
            have hb8' : Below w6.heap.size w6 w8 := hb.trans (hb8.mono hb.size)
            have R8 : w8.rowIs w6.heap.size 3 B (fun j => .int .i64 ((mcount N E (ints L) pre j + (bl.take 0).count j : Nat) : Int)) := (R.of_block (hb8.block _ R.lt)).congr (fun j _ => by simp)
            have hM : w6.heap.size < wr.heap.size := R.lt
            clear p0 p1 p2 p3 p4 p5 p6 p7 p8 p9 cB hcx hrow8
            go_wp2_with fail
            go_loopw [57] (fun jv wr => ∃ j : Nat, j ≤ bl.length ∧ jv = .int .i64 (j : Int) ∧ wr.rowIs w6.heap.size 3 B (fun b => .int .i64 ((mcount N E (ints L) pre b + (bl.take j).count b : Nat) : Int)) ∧ RowI wr v8 (ints bl) ∧ Below w6.heap.size w6 wr) (fun jv _ => bl.length - (intOf jv).toNat)
            case atStart => exact ⟨0, by omega, rfl, R8, hr8, hb8'⟩
            case round =>
              obtain ⟨j, hj, rfl, Rq, hrq, hbq⟩ := hrel
              have hBq := fin hB6 hbq
              by_cases hjl : j < bl.length
              · have hjl' : j < (ints bl).length := by rw [ints_length]; exact hjl
                have hjI : (j : Int) < (bl.length : Int) := by omega
                obtain ⟨b8, off8, rfl, hcy⟩ := rowI_cell hrq (Below.refl _ _) hjl'
                have hge : (ints bl)[j] = ((bl[j] : Nat) : Int) := by simp [ints]
                rw [hge] at hcy
                obtain ⟨hbB, hbo⟩ := hbm.out _ (List.getElem_mem hjl)
                have hcs : Hid (∀ b, (bl.take (j + 1)).count b = (bl.take j).count b + if b = bl[j] then 1 else 0) := hide (fun b => count_take_succ hjl)
                have hct : ∀ b, (bl.take j).count b ≤ 128 := fun b => Nat.le_trans List.count_le_length (by rw [List.length_take]; omega)
                generalize bl[j] = b at *
                have hmb : mcount N E (ints L) pre b + (bl.take j).count b ≤ 1000 := by have := mcount_le N E (ints L) pre b; have := hct b; omega
                have hcell := Rq.cell hbB
                have hfr := Rq.frozen b
                have hbB' : (b : Int) < (B : Int) := by omega
                have cO := lOwner_any c (E : Int) (some ⟨bb, off, none⟩) vcap (ints L) (b : Int) wr (hri.below hbq) (by rw [ints_length]; omega)
                rw [ownerI_yes HMAY.out HOK.out.n (show (b : Int) < c.bu by rw [HOK.out.b]; omega), hbo, ints_length] at cO
                have hg2 : Hid (∀ i, i < B → (mcount N E (ints L) pre i + (bl.take (j + 1)).count i) = if i = b then (mcount N E (ints L) pre b + (bl.take j).count b) + 1 else mcount N E (ints L) pre i + (bl.take j).count i) := hide (fun i _ => by
                  rw [hcs.out i]
                  by_cases e : i = b
                  · subst e; simp; omega
                  · simp [e])
                have hRq := hide Rq
                obtain ⟨q, hq⟩ : ∃ q, Hid (mcount N E (ints L) pre b + (bl.take j).count b = q) := ⟨_, hide rfl⟩
                rw [hq.out] at hcell hmb
                have d1 : decide ((b : Int) < 0) = false := decide_eq_false (by omega)
                have d2 : decide (B ≤ b) = false := decide_eq_false (by omega)
                have d4 : decide (c.bu ≤ (b : Int)) = false := decide_eq_false (by rw [HOK.out.b]; omega)
                obtain ⟨p0, p1, p2, p3, p4, p5, p6, p7, p8, p9⟩ := (k6.below hbq).cells
                clear hge hjl' hct hbo hcs Rq
                go_wp2_with fail
                refine cO.mono ?_
                rintro e w9 ⟨rfl, hb9⟩
                have hb9' : Below w6.heap.size w6 w9 := hbq.trans (hb9.mono hbq.size)
                have R9 := hRq.out.of_block (hb9.block _ hRq.out.lt)
                have hcell9 := (hb9.cell (p := ⟨w6.heap.size, b, none⟩) hRq.out.lt).trans hcell
                have hfr9 := R9.frozen b
                have R10 := row_inc R9 b hg2.out
                rw [hq.out] at R10
                have hr10 : RowI (w9.setCell ⟨w6.heap.size, b, none⟩ (.int .i64 ((q : Int) + 1))) (some ⟨b8, off8, none⟩) (ints bl) := (hrq.below hb9).setCell (fun x hx => by cases hx; have := hap _ rfl; show b8 ≠ w6.heap.size; simp at this; omega)
                have hb10 : Below w6.heap.size w6 (w9.setCell ⟨w6.heap.size, b, none⟩ (.int .i64 ((q : Int) + 1))) := hb9'.setCell (p := ⟨w6.heap.size, b, none⟩) (Nat.le_refl _) _
                clear p0 p1 p2 p3 p4 p5 p6 p7 p8 p9 cO hcell hfr hRq R9 hb9 hrq
                go_wp2_with fail
                go_roundw
                case rel => exact ⟨j + 1, by omega, by go_num, R10, hr10, hb10⟩
                case measure => simp [intOf]; omega
              · obtain rfl : j = bl.length := by omega
                have R11 : wr.rowIs w6.heap.size 3 B (fun i => .int .i64 ((mcount N E (ints L) (L.take (k + 1)) i : Nat) : Int)) := row_congr Rq (fun i hi => by rw [hstep.out, mcount_snoc, List.take_length, hbc.out i hi])
                clear Rq hrq
                go_wp2_with fail
                go_roundw
                case rel => first | exact ⟨k + 1, by omega, by go_num, R11, hbq⟩ | ((repeat apply Exists.intro); exact ⟨⟨k + 1, by omega, by go_num, R11, hbq⟩, rfl⟩)
                case measure => simp [intOf]; omega
          · obtain rfl : k = L.length := by omega
            have R2 : wr.rowIs w6.heap.size 3 B (fun _ => .int .i64 1) := R.congr (fun i hi => by
              obtain ⟨m, hm, ho⟩ := ownI_some (N := N) (E := E) (b := i) hne.out hlt.out
              show Value.int .i64 ((mcount N E (ints L) (L.take L.length) i : Nat) : Int) = _
              rw [List.take_length, mcount_all ho (hcnt.out m hm)]; rfl)
            clear R
            go_wp2_with fail
            go_loopw [88] (fun jv wr => ∃ j : Nat, j ≤ B ∧ jv = .int .i64 (j : Int) ∧ wr.rowIs w6.heap.size 3 B (fun _ => .int .i64 1) ∧ Below w6.heap.size w6 wr) (fun jv _ => B - (intOf jv).toNat)
            case atStart => exact ⟨0, by omega, rfl, R2, hb⟩
            case round =>
              clear R2
              obtain ⟨j, hj, rfl, R2, hbq⟩ := hrel
              by_cases hjB : j < B
              · have hjI : (j : Int) < (B : Int) := by omega
                have hcj := R2.cell hjB
                go_wp2_with fail
                go_roundw
                case rel => exact ⟨j + 1, by omega, by go_num, R2, hbq⟩
                case measure => simp [intOf]; omega
              · obtain rfl : j = B := by omega
                go_wp2_with fail
                refine (lives11_any _).mono ?_
                rintro e w9 ⟨rfl, hb9⟩
                go_wp2_with fail
                go_ret
                exact ⟨rfl, fin (fin hB6 hbq) hb9⟩
end Go.Proofs.Ytnndlgdlligjbaa
