/- the document's signs and Count -/
import Derived.Test.YtogmkcabndgllaaV25
namespace Go.Proofs.Ytogmkcabndgllaa
open Go.RowKit
def CS (w1 wr : World) (st : List On) (v : Vt) (sv : Value) (j : Nat) : Prop := wr.ownsRow w1.heap.size 52 17 sv (signsL j st v).length (flatS (signsL j st v)) ∧ Below w1.heap.size w1 wr
set_option maxRecDepth 100000 in
set_option maxHeartbeats 8000000 in
theorem xsigns_any (X : Nat) (a0 : Option Addr) (cap0 : Nat) (N : Int) (st : List On) (v : Vt) (hv : v.ok) (w : World) (h : XAt w X a0 cap0 N st) (hlen : st.length < 1000000) :
    Calls Try.prog 26 #[.pointer (some ⟨X, 0, none⟩), .agg v.cells.toArray] w fun e w' => ∃ a cap, e = .returned (.slice a (signsL N.toNat st v).length cap) ∧ SigsAt w' a (signsL N.toNat st v) ∧ (signsL N.toNat st v).length ≤ cap ∧ cap ≤ maxLen ∧ (∀ x, a = some x → w.heap.size ≤ x.block) ∧ Below w.heap.size w w' := by
  have hbk := h.bk
  have hgood := h.bk.good
  obtain ⟨NN, rfl⟩ : ∃ NN : Nat, N = (NN : Int) := ⟨N.toNat, by omega⟩
  simp only [Int.toNat_natCast] at *
  have hNN : NN ≤ 64 := by omega
  have hb0 := one_box (w := w) v.cells 31
  have heqU := fun (z : Vt) (hz : z.ok) w => eqV z v hz hv w
  have hiV : (Try.prog.info? 31).map (·.size) = some v.cells.length := by rw [hv.len]; exact iszV
  obtain ⟨k, ep, vw, sl, d⟩ := v
  obtain ⟨u, hu⟩ : ∃ u, Hid ((Vt.mk k ep vw sl d).cells = u) := ⟨_, hide rfl⟩
  have c0k : (u)[0]? = some (.int .i64 k) := by rw [← hu.out]; rfl
  simp only [hu.out] at heqU hb0 hiV ⊢
  go_enter Try.func26, Try.ntmps26
  go_upto_region 1 with fail
  go_name_world w1 hw1
  rw [hw1] at hb0
  clear hw1
  obtain ⟨hB1, hR1, hsz1⟩ := hb0
  have h1 := h.below hB1
  have HST : Hid (CS w1 w1 st ⟨k, ep, vw, sl, d⟩ (.slice none 0 0) 0) := hide ⟨⟨rfl, .inl ⟨rfl, rfl⟩⟩, Below.refl _ _⟩
  go_wp2_with fail
  go_loopw [5, 6] (fun sv iv wr => ∃ j : Nat, j ≤ NN ∧ iv = .int .i64 (j : Int) ∧ Hid (CS w1 wr st ⟨k, ep, vw, sl, d⟩ sv j)) (fun _ iv _ => NN - (intOf iv).toNat)
  case atStart => exact ⟨0, by omega, rfl, HST⟩
  case round =>
    clear HST
    obtain ⟨j, hj, rfl, HK⟩ := hrel
    obtain ⟨ho, hb⟩ := HK.out
    clear HK
    have hbs := hb.size
    have c0 := (h1.below hb).c0
    by_cases hlt : j < NN
    · have hjI : (j : Int) < (NN : Int) := by omega
      obtain ⟨sv, hsv⟩ : ∃ sv, sv = u5 := ⟨_, rfl⟩
      subst hsv
      have cO := fun w' (h : XAt w' X a0 cap0 (NN : Int) st) => xof_any X a0 cap0 (NN : Int) st k (j : Int) w' h hlen
      have hy := find_ok hbk k (j : Int)
      have hk0 : wr.cell? ⟨w.heap.size, 0, none⟩ = some (.int .i64 k) := by have := range_below hR1 hb (by omega) 0 _ c0k; simpa using this
      have hbk' := h1.below hb
      cases hf : find st k (j : Int) with
      | none =>
        rw [hf] at cO hy
        simp only [Option.getD_none, Option.isSome_none] at cO hy
        have HS : Hid (signsL (j + 1) st ⟨k, ep, vw, sl, d⟩ = signsL j st ⟨k, ep, vw, sl, d⟩) := hide (by rw [signs_succ]; unfold sgOf; simp only [hf]; simp)
        go_wp2_with fail
        refine (cO wr hbk').mono ?_
        rintro _ w5 ⟨rfl, hB5⟩
        clear cO
        have hb5 : Below w1.heap.size w1 w5 := hb.trans (hB5.mono hb.size)
        have q36 : on0.v.cells.toArray.size = 36 := by simpa using hy.v.len
        have q16 : (v8 on0.t).toArray.size = 16 := by simpa using hy.tl
        have q1 := all_one on0.v.one
        have q2 := all_one (v8_one on0.t)
        have iq1 : (Try.prog.info? 31).map (·.size) = some on0.v.cells.toArray.size := by rw [q36]; exact iszV
        have iq2 : (Try.prog.info? 33).map (·.size) = some (v8 on0.t).toArray.size := by rw [q16]; exact iszT
        have iq3 : (Try.prog.info? 31).map (·.size) = some on0.v.cells.length := by rw [hy.v.len]; exact iszV
        have iq4 : (Try.prog.info? 33).map (·.size) = some (v8 on0.t).length := by rw [v8_length, hy.tl]; exact iszT
        have heq := heqU on0.v hy.v
        obtain ⟨yc, hyc⟩ : ∃ yc, Hid (on0.v.cells = yc) := ⟨_, hide rfl⟩
        obtain ⟨yt, hyt⟩ : ∃ yt, Hid (v8 on0.t = yt) := ⟨_, hide rfl⟩
        rw [hyc.out] at q36 q1 iq1 iq3 ⊢
        simp only [hyc.out] at heq
        rw [hyt.out] at q16 q2 iq2 iq4 ⊢
        go_upto_region 6 with (first
          | (refine wpList_store_mid rfl 31 _ _ rfl _ 0 yc.toArray rfl rfl (two_thereA _ _ _ _ _ q36.symm) iq1 q1 ?_)
          | (refine wpList_store_mid rfl 33 _ _ rfl _ 0 yt.toArray rfl rfl (two_thereB _ _ _ _ _ _ q16.symm) iq2 q2 ?_))
        go_name_world w6 hw6
        obtain ⟨hB6, hY, hYT⟩ := two_filled2 hw6 (by simpa using q36) (by simpa using q16)
        clear hw6
        have hb6 : Below w1.heap.size w1 w6 := hb5.trans (hB6.mono hb5.size)
        have hR3 := range_below hR1 hb6 (by omega)
        have ho6 := own_below17 (own_below17 ho hB5) hB6
        try simp only [Act.put]
        refine wp_region_list ?_
        refine wpList_step fun K hK => ?_
        go_simp
        refine hK _ _ ?_
        clear hK K
        refine wpList_step fun K hK => ?_
        go_simp
        refine hK _ _ ?_
        clear hK K
        refine wpList_step fun K hK => ?_
        go_simp
        refine hK _ _ ?_
        clear hK K
        refine wpList_step fun K hK => ?_
        go_simp
        refine hK _ _ ?_
        clear hK K
        refine wpList_step fun K hK => ?_
        go_simp
        refine hK _ _ ?_
        clear hK K
        refine wpList_step fun K hK => ?_
        go_simp
        refine hK _ _ ?_
        clear hK K
        have HR : Hid (CS w1 w6 st ⟨k, ep, vw, sl, d⟩ sv (j + 1)) := hide ⟨by rw [HS.out]; exact ho6, hb6⟩
        clear ho6 hb6
        go_wp2_with fail
        go_roundw
        case rel => exact ⟨j + 1, by omega, by go_num, HR⟩
        case measure => simp [intOf]; omega
      | some y =>
        rw [hf] at cO hy
        simp only [Option.getD_some, Option.isSome_some] at cO hy
        by_cases hyv : y.v = ⟨k, ep, vw, sl, d⟩
        · have hde : decide (y.v = ⟨k, ep, vw, sl, d⟩) = true := decide_eq_true hyv
          have HS : Hid (signsL (j + 1) st ⟨k, ep, vw, sl, d⟩ = signsL j st ⟨k, ep, vw, sl, d⟩ ++ [⟨(j : Int), y.t⟩]) := hide (by rw [signs_succ]; unfold sgOf; simp only [hf]; rw [if_pos hyv])
          go_wp2_with fail
          refine (cO wr hbk').mono ?_
          rintro _ w5 ⟨rfl, hB5⟩
          clear cO
          have hb5 : Below w1.heap.size w1 w5 := hb.trans (hB5.mono hb.size)
          have q36 : y.v.cells.toArray.size = 36 := by simpa using hy.v.len
          have q16 : (v8 y.t).toArray.size = 16 := by simpa using hy.tl
          have q1 := all_one y.v.one
          have q2 := all_one (v8_one y.t)
          have iq1 : (Try.prog.info? 31).map (·.size) = some y.v.cells.toArray.size := by rw [q36]; exact iszV
          have iq2 : (Try.prog.info? 33).map (·.size) = some (v8 y.t).toArray.size := by rw [q16]; exact iszT
          have iq3 : (Try.prog.info? 31).map (·.size) = some y.v.cells.length := by rw [hy.v.len]; exact iszV
          have iq4 : (Try.prog.info? 33).map (·.size) = some (v8 y.t).length := by rw [v8_length, hy.tl]; exact iszT
          have heq := heqU y.v hy.v
          obtain ⟨yc, hyc⟩ : ∃ yc, Hid (y.v.cells = yc) := ⟨_, hide rfl⟩
          obtain ⟨yt, hyt⟩ : ∃ yt, Hid (v8 y.t = yt) := ⟨_, hide rfl⟩
          rw [hyc.out] at q36 q1 iq1 iq3 ⊢
          simp only [hyc.out] at heq
          rw [hyt.out] at q16 q2 iq2 iq4 ⊢
          go_upto_region 6 with (first
            | (refine wpList_store_mid rfl 31 _ _ rfl _ 0 yc.toArray rfl rfl (two_thereA _ _ _ _ _ q36.symm) iq1 q1 ?_)
            | (refine wpList_store_mid rfl 33 _ _ rfl _ 0 yt.toArray rfl rfl (two_thereB _ _ _ _ _ _ q16.symm) iq2 q2 ?_))
          go_name_world w6 hw6
          obtain ⟨hB6, hY, hYT⟩ := two_filled2 hw6 (by simpa using q36) (by simpa using q16)
          clear hw6
          have hb6 : Below w1.heap.size w1 w6 := hb5.trans (hB6.mono hb5.size)
          have hR3 := range_below hR1 hb6 (by omega)
          have ho6 := own_below17 (own_below17 ho hB5) hB6
          simp only [hde] at heq
          try simp only [Act.put]
          refine wp_region_list ?_
          refine wpList_step fun K hK => ?_
          go_simp
          refine hK _ _ ?_
          clear hK K
          refine wpList_step fun K hK => ?_
          go_simp
          refine hK _ _ ?_
          clear hK K
          refine wpList_load_g (by rfl) 31 _ rfl _ _ rfl yc _ hY Try.underlying31 rfl iq3 ?_
          refine wpList_load_g (by rfl) 31 _ rfl _ _ rfl u _ hR3 Try.underlying31 rfl hiV ?_
          refine wpList_step fun K hK => ?_
          go_simp
          try rw [heq]
          try go_simp
          refine hK _ _ ?_
          clear hK K
          refine wpList_step fun K hK => ?_
          go_simp
          refine hK _ _ ?_
          clear hK K
          have hul : (Sg.mk (j : Int) y.t).cells.length = 17 := by have := hy.tl; simp [Sg.cells]; omega
          have hu1 := (Sg.mk (j : Int) y.t).one
          have hbs : ∀ w' : World, (Instr.build 52 #[(0, .int .i64 (j : Int)), (1, .agg yt.toArray)]).run Try.prog w' = .ok (.agg (Sg.mk (j : Int) y.t).cells.toArray) w' := fun w' => by rw [← hyt.out]; exact build_sign (j : Int) (v8 y.t) (by rw [v8_length, hy.tl]) w'
          obtain ⟨us, hus⟩ : ∃ us, Hid ((Sg.mk (j : Int) y.t).cells = us) := ⟨_, hide rfl⟩
          rw [hus.out] at hul hu1
          simp only [hus.out] at hbs
          have hown7 := ho6.alloc (.cells us.toArray 52)
          have hsrc7 := one_sign w6 us hul hu1
          have hb7 : Below w1.heap.size w1 (w6.alloc (.cells us.toArray 52)) := hb6.alloc hb6.size _
          obtain ⟨i1, hi1, hiz, his, hib⟩ := info_parts infoSg
          obtain ⟨m, hm⟩ : ∃ m, Hid ((signsL j st ⟨k, ep, vw, sl, d⟩).length = m) := ⟨_, hide rfl⟩
          have hml : m ≤ 64 := by rw [← hm.out]; have := signs_le j st ⟨k, ep, vw, sl, d⟩; omega
          rw [hm.out] at hown7
          go_wp2_with (first
            | (refine wpList_load_mid rfl 33 _ rfl _ _ rfl yt _ hYT Try.underlying33 rfl iq4 ?_)
            | (refine wpList_build rfl 52 [(0, .tmp 34), (1, .tmp 35)] rfl [(0, .int .i64 (j : Int)), (1, .agg yt.toArray)] (.agg us.toArray) rfl (hbs _) ?_)
            | (refine wpList_run1 rfl (exec_bs1 rfl rfl (bs_sign hul _)) ?_)
            | (at_builtin; refine wpList_append_own_src2 _ rfl _ _ 42 42 rfl w1.heap.size 52 i1 _ 17 24 Try.underlying42 hi1 hiz his hib zsg17 _ m _ rfl hown7 (.slice (some ⟨w6.heap.size, 0, none⟩) 1 1) 1 us rfl hsrc7 ?c1 ?c2 ?c3 ?_))
          case c1 => unfold maxLen; omega
          case c2 => omega
          case c3 => exact hb7.size
          intro v8' w8 hown8 hgrow8 _
          have hb8 := own17 hb7 hb7.size hown7 hgrow8
          have HR : Hid (CS w1 w8 st ⟨k, ep, vw, sl, d⟩ v8' (j + 1)) := hide ⟨by rw [HS.out, flatS_append, List.length_append, hm.out]; simpa [flatS, hus.out] using hown8, hb8⟩
          clear hown8 hgrow8 hown7 hsrc7 ho6 hb7 hb8 hb6
          go_wp2_with fail
          go_roundw
          case rel => exact ⟨j + 1, by omega, by go_num, HR⟩
          case measure => simp [intOf]; omega
        · have hde : decide (y.v = ⟨k, ep, vw, sl, d⟩) = false := decide_eq_false hyv
          have HS : Hid (signsL (j + 1) st ⟨k, ep, vw, sl, d⟩ = signsL j st ⟨k, ep, vw, sl, d⟩) := hide (by rw [signs_succ]; unfold sgOf; simp only [hf]; rw [if_neg hyv]; simp)
          go_wp2_with fail
          refine (cO wr hbk').mono ?_
          rintro _ w5 ⟨rfl, hB5⟩
          clear cO
          have hb5 : Below w1.heap.size w1 w5 := hb.trans (hB5.mono hb.size)
          have q36 : y.v.cells.toArray.size = 36 := by simpa using hy.v.len
          have q16 : (v8 y.t).toArray.size = 16 := by simpa using hy.tl
          have q1 := all_one y.v.one
          have q2 := all_one (v8_one y.t)
          have iq1 : (Try.prog.info? 31).map (·.size) = some y.v.cells.toArray.size := by rw [q36]; exact iszV
          have iq2 : (Try.prog.info? 33).map (·.size) = some (v8 y.t).toArray.size := by rw [q16]; exact iszT
          have iq3 : (Try.prog.info? 31).map (·.size) = some y.v.cells.length := by rw [hy.v.len]; exact iszV
          have iq4 : (Try.prog.info? 33).map (·.size) = some (v8 y.t).length := by rw [v8_length, hy.tl]; exact iszT
          have heq := heqU y.v hy.v
          obtain ⟨yc, hyc⟩ : ∃ yc, Hid (y.v.cells = yc) := ⟨_, hide rfl⟩
          obtain ⟨yt, hyt⟩ : ∃ yt, Hid (v8 y.t = yt) := ⟨_, hide rfl⟩
          rw [hyc.out] at q36 q1 iq1 iq3 ⊢
          simp only [hyc.out] at heq
          rw [hyt.out] at q16 q2 iq2 iq4 ⊢
          go_upto_region 6 with (first
            | (refine wpList_store_mid rfl 31 _ _ rfl _ 0 yc.toArray rfl rfl (two_thereA _ _ _ _ _ q36.symm) iq1 q1 ?_)
            | (refine wpList_store_mid rfl 33 _ _ rfl _ 0 yt.toArray rfl rfl (two_thereB _ _ _ _ _ _ q16.symm) iq2 q2 ?_))
          go_name_world w6 hw6
          obtain ⟨hB6, hY, hYT⟩ := two_filled2 hw6 (by simpa using q36) (by simpa using q16)
          clear hw6
          have hb6 : Below w1.heap.size w1 w6 := hb5.trans (hB6.mono hb5.size)
          have hR3 := range_below hR1 hb6 (by omega)
          have ho6 := own_below17 (own_below17 ho hB5) hB6
          simp only [hde] at heq
          try simp only [Act.put]
          refine wp_region_list ?_
          refine wpList_step fun K hK => ?_
          go_simp
          refine hK _ _ ?_
          clear hK K
          refine wpList_step fun K hK => ?_
          go_simp
          refine hK _ _ ?_
          clear hK K
          refine wpList_load_g (by rfl) 31 _ rfl _ _ rfl yc _ hY Try.underlying31 rfl iq3 ?_
          refine wpList_load_g (by rfl) 31 _ rfl _ _ rfl u _ hR3 Try.underlying31 rfl hiV ?_
          refine wpList_step fun K hK => ?_
          go_simp
          try rw [heq]
          try go_simp
          refine hK _ _ ?_
          clear hK K
          refine wpList_step fun K hK => ?_
          go_simp
          refine hK _ _ ?_
          clear hK K
          have HR : Hid (CS w1 w6 st ⟨k, ep, vw, sl, d⟩ sv (j + 1)) := hide ⟨by rw [HS.out]; exact ho6, hb6⟩
          clear ho6 hb6
          go_wp2_with fail
          go_roundw
          case rel => exact ⟨j + 1, by omega, by go_num, HR⟩
          case measure => simp [intOf]; omega
    · obtain rfl : j = NN := by omega
      obtain ⟨a, cap, rfl, hcap, hcm, hsg, hba⟩ := own_sigs ho (signs_ok hbk) (by have := signs_le j st ⟨k, ep, vw, sl, d⟩; omega)
      have HF := hide (And.intro hcap (And.intro hcm (And.intro hsg hba)))
      clear hcap hcm hsg hba ho
      go_wp2_with fail
      go_ret
      exact ⟨a, cap, rfl, HF.out.2.2.1, HF.out.1, HF.out.2.1, fun x hx => by have := HF.out.2.2.2 x hx; omega, hB1.trans (hb.mono (by omega))⟩
end Go.Proofs.Ytogmkcabndgllaa
