/- raddlelaw10.light -/
import Derived.Test.YtbfcbjjhdadicaaDoorP14
import Derived.Test.YtbfcbjjhdadicaaDoorP10
namespace Go.Proofs.YtbfcbjjhdadicaaDoor
open Go.RowKit
open Sha Tal
theorem iszA : (Tryd.prog.info? 40).map (·.size) = some 24 := by kernel_rfl
theorem sum_ok (n a b c : Int) (n0 : 0 ≤ n) (n1 : n ≤ 20000) (a0 : 0 ≤ a) (a1 : a ≤ 100) (b0 : 0 ≤ b) (b1 : b ≤ 800) (c0 : 0 ≤ c) (c1 : c ≤ 1000) : 0 ≤ wrap64 (n + wrap64 (wrap64 (wrap64 (10 + a) + c) + wrap64 (20 * b))) := by
  have w : ∀ x : Int, 0 ≤ x → x ≤ 1000000 → wrap64 x = x := fun x h0 h1 => by unfold wrap64; omega
  rw [w (10 + a) (by omega) (by omega), w (10 + a + c) (by omega) (by omega), w (20 * b) (by omega) (by omega), w (10 + a + c + 20 * b) (by omega) (by omega), w _ (by omega) (by omega)]
  omega
theorem act_blank {A : Ac} (h : A.cells.length = 24) (w : World) : (w.alloc (.cells #[.int .i64 0, .int .i64 0, .int .i64 0, .string ⟨#[]⟩, .int .u8 0, .int .u8 0, .int .u8 0, .int .u8 0, .int .u8 0, .int .u8 0, .int .u8 0, .int .u8 0, .int .u8 0, .int .u8 0, .int .u8 0, .int .u8 0, .int .u8 0, .int .u8 0, .int .u8 0, .int .u8 0, .slice none 0 0, .int .i64 0, .slice none 0 0, .slice none 0 0] 40)).there w.heap.size 0 A.cells.toArray.size := by
  have := there_new w #[.int .i64 0, .int .i64 0, .int .i64 0, .string ⟨#[]⟩, .int .u8 0, .int .u8 0, .int .u8 0, .int .u8 0, .int .u8 0, .int .u8 0, .int .u8 0, .int .u8 0, .int .u8 0, .int .u8 0, .int .u8 0, .int .u8 0, .int .u8 0, .int .u8 0, .int .u8 0, .int .u8 0, .slice none 0 0, .int .i64 0, .slice none 0 0, .slice none 0 0] 40
  have e : A.cells.toArray.size = 24 := by rw [List.size_toArray, h]
  rw [e]; exact this
theorem Ac.ok.below {W W' : World} {A : Ac} (h : A.ok W) (hb : Below W.heap.size W W') : A.ok W' :=
  { h with
    b := h.b.below hb
    u := h.u.below hb
    uo := fun x hx => ⟨(h.uo x hx).1, (h.uo x hx).2.1, (h.uo x hx).2.2.below hb⟩
    w := h.w.below hb }
def lightA (A : Ac) : Prop := A.bz.length ≤ 100 ∧ A.ws.length ≤ 100 ∧ A.r.s.size ≤ 1000 ∧ wt A.us ≤ 4000
set_option maxRecDepth 100000 in
set_option maxHeartbeats 4000000 in
theorem light10_any (a : Option Addr) (cap : Nat) (As : List Ac) (w : World) (h : RowOf Ac.cells w a As) (hok : ∀ A ∈ As, A.ok w) :
    Calls Tryd.prog 10 #[.slice a As.length cap] w fun e w' => (e = .returned (.bool false) ∧ Below w.heap.size w w') ∨ (e = .returned (.bool true) ∧ Below w.heap.size w w' ∧ As.length ≤ 200 ∧ ∀ A ∈ As, lightA A) := by
  by_cases hl : As.length ≤ 200
  · have hlI : ¬ (200 : Int) < (As.length : Int) := by omega
    go_enter Tryd.func10, Tryd.ntmps10
    go_wp2_with fail
    go_loopw [3, 11] (fun nv iv wr => ∃ (k : Nat) (n : Int), k ≤ As.length ∧ iv = .int .i64 (k : Int) ∧ nv = .int .i64 n ∧ 0 ≤ n ∧ n ≤ 20000 ∧ Hid (∀ A ∈ As.take k, lightA A) ∧ Below w.heap.size w wr) (fun _ iv _ => As.length - (intOf iv).toNat)
    case atStart => exact ⟨0, 0, by omega, rfl, rfl, by omega, by omega, hide (fun A hA => by simp at hA), Below.refl _ _⟩
    case round =>
      obtain ⟨k, n, hk, rfl, rfl, n0, n1, HL, hB⟩ := hrel
      by_cases hlt : k < As.length
      · have k1 : (k : Int) < (As.length : Int) := by omega
        obtain ⟨b, off, rfl, hb, hre⟩ := (h.below hB).elem (k := 24) (fun A hA => (hok A hA).length) k hlt
        have HTK := hide (List.take_succ_eq_append_getElem hlt)
        have hok := (hok _ (List.getElem_mem hlt)).below hB
        generalize As[k] = A at *
        have hiq : (Tryd.prog.info? 40).map (·.size) = some A.cells.length := by rw [hok.length]; exact iszA
        have hiA : (Tryd.prog.info? 40).map (·.size) = some A.cells.toArray.size := by rw [List.size_toArray, hok.length]; exact iszA
        have hN := act_blank hok.length wr
        have h1c := all_oneCell_toArray A.one
        have F := fresh_store wr #[.int .i64 0, .int .i64 0, .int .i64 0, .string ⟨#[]⟩, .int .u8 0, .int .u8 0, .int .u8 0, .int .u8 0, .int .u8 0, .int .u8 0, .int .u8 0, .int .u8 0, .int .u8 0, .int .u8 0, .int .u8 0, .int .u8 0, .int .u8 0, .int .u8 0, .int .u8 0, .int .u8 0, .slice none 0 0, .int .i64 0, .slice none 0 0, .slice none 0 0] 40 A.cells (by rw [hok.length]; rfl)
        obtain ⟨u, hu⟩ : ∃ u, Hid (A.cells = u) := ⟨_, hide rfl⟩
        rw [hu.out] at hre hiq hiA hN h1c F
        clear hlI
        go_upto_region 6 with fail
        try simp only [Act.put]
        refine wp_region_list ?_
        refine wpList_step fun K hK => ?_
        go_simp
        refine hK _ _ ?_
        clear hK K
        refine wpList_load_mid rfl 40 _ rfl _ _ rfl u _ hre Tryd.underlying40 rfl hiq ?_
        go_upto_region 7 with (refine wpList_store_mid (op := ⟨none, .store 40 (.tmp 5) (.tmp 14), _, _, _, none⟩) rfl 40 _ _ rfl _ _ u.toArray rfl rfl hN hiA h1c ?_)
        go_name_world w3 hw3
        rw [show (wr.alloc (.cells #[.int .i64 0, .int .i64 0, .int .i64 0, .string ⟨#[]⟩, .int .u8 0, .int .u8 0, .int .u8 0, .int .u8 0, .int .u8 0, .int .u8 0, .int .u8 0, .int .u8 0, .int .u8 0, .int .u8 0, .int .u8 0, .int .u8 0, .int .u8 0, .int .u8 0, .int .u8 0, .int .u8 0, .slice none 0 0, .int .i64 0, .slice none 0 0, .slice none 0 0] 40)).setCells wr.heap.size 0 u = w3 from hw3] at F
        clear hw3 hN
        obtain ⟨hR3, hF3, hz3, -⟩ := F
        rw [← hu.out] at hR3
        have ha := act_cells hok.r hR3
        simp only [Nat.zero_add] at ha
        obtain ⟨-, -, -, c20, -, c22, c23⟩ := ha
        have c3 : w3.cell? ⟨wr.heap.size, 3, none⟩ = some (.string A.r.s) := by
          have := (act_req hR3) 2 _ rfl
          rwa [Nat.zero_add] at this
        have hB3 := hB.trans (hF3.mono hB.size)
        have hok3 := hok.below hF3
        have cL := Light_row A.ua A.uc A.us w3 hok3.u hok3.uo (Nat.le_trans hok3.ul hok3.um)
        have hsl := hok.r.sl
        have hbl := Nat.le_trans hok.bl hok.bm
        have hul := Nat.le_trans hok.ul hok.um
        have hwl := Nat.le_trans hok.wl hok.wm
        unfold maxLen at hsl hbl hul hwl
        by_cases h1 : 100 < A.bz.length
        · have h1I : (100 : Int) < (A.bz.length : Int) := by omega
          go_wp2_with fail
          go_ret
          exact .inl ⟨rfl, hB3⟩
        · have h1I : ¬ (100 : Int) < (A.bz.length : Int) := by omega
          by_cases h2 : 100 < A.ws.length
          · have h2I : (100 : Int) < (A.ws.length : Int) := by omega
            go_wp2_with fail
            go_ret
            exact .inl ⟨rfl, hB3⟩
          · have h2I : ¬ (100 : Int) < (A.ws.length : Int) := by omega
            by_cases h3 : 1000 < A.r.s.size
            · have h3I : (1000 : Int) < (A.r.s.size : Int) := by omega
              go_wp2_with fail
              go_ret
              exact .inl ⟨rfl, hB3⟩
            · have h3I : ¬ (1000 : Int) < (A.r.s.size : Int) := by omega
              go_wp2_with fail
              refine cL.mono ?_
              rintro e w4 (⟨rfl, hb4⟩ | ⟨rfl, hb4, hwt⟩)
              · have hB4 := hB3.trans (hb4.mono hB3.size)
                go_wp2_with fail
                go_ret
                exact .inl ⟨rfl, hB4⟩
              · have hB4 := hB3.trans (hb4.mono hB3.size)
                have d20 := (hb4.cell (p := ⟨wr.heap.size, 20, none⟩) (show wr.heap.size < _ by omega)).trans c20
                have d22 := (hb4.cell (p := ⟨wr.heap.size, 22, none⟩) (show wr.heap.size < _ by omega)).trans c22
                have d3 := (hb4.cell (p := ⟨wr.heap.size, 3, none⟩) (show wr.heap.size < _ by omega)).trans c3
                have hus := wt_len A.us
                have hus2 : A.us.length ≤ 800 := by omega
                have HL2 : Hid (∀ x ∈ As.take (k + 1), lightA x) := hide (fun x hx => by
                  rw [HTK.out] at hx
                  rcases List.mem_append.1 hx with q | q
                  · exact HL.out x q
                  · rw [List.mem_singleton.1 q]
                    exact ⟨by omega, by omega, by omega, hwt⟩)
                clear c20 c22 c23 c3 cL hsl hbl hul hwl hwt HL HTK hus
                obtain ⟨L1, hL1⟩ : ∃ L1, Hid (A.bz.length = L1) := ⟨_, hide rfl⟩
                obtain ⟨L2, hL2⟩ : ∃ L2, Hid (A.us.length = L2) := ⟨_, hide rfl⟩
                rw [hL1.out] at d20 h1 h1I
                rw [hL2.out] at d22 hus2
                have HX0 : Hid (0 ≤ wrap64 (n + wrap64 (wrap64 (wrap64 (10 + (L1 : Int)) + (A.r.s.size : Int)) + wrap64 (20 * (L2 : Int))))) := hide (sum_ok n L1 L2 A.r.s.size n0 n1 (by omega) (by omega) (by omega) (by omega) (by omega) (by omega))
                clear hus2 h1 h2 h3 h1I h2I h3I
                go_upto_region 10 with fail
                generalize wrap64 (n + wrap64 (wrap64 (wrap64 (10 + (L1 : Int)) + (A.r.s.size : Int)) + wrap64 (20 * (L2 : Int)))) = X at *
                clear d20 d22 d3
                by_cases h5 : (20000 : Int) < X
                · go_wp2_with fail
                  go_ret
                  exact .inl ⟨rfl, hB4⟩
                · go_wp2_with fail
                  go_roundw
                  case rel => exact ⟨k + 1, X, by omega, by go_num, rfl, HX0.out, by omega, HL2, hB4⟩
                  case measure => simp [intOf]; omega
      · have k1 : ¬ (k : Int) < (As.length : Int) := by omega
        have HF : Hid (∀ A ∈ As, lightA A) := hide (by have := HL.out; rwa [List.take_of_length_le (by omega)] at this)
        go_wp2_with fail
        go_ret
        exact .inr ⟨rfl, hB, HF.out⟩
  · have hlI : (200 : Int) < (As.length : Int) := by omega
    go_enter Tryd.func10, Tryd.ntmps10
    go_wp2_with fail
    go_ret
    exact .inl ⟨rfl, Below.refl _ _⟩
end Go.Proofs.YtbfcbjjhdadicaaDoor
