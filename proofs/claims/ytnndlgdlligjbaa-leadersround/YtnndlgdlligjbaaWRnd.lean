/- the walk of LeadersRound -/
import Derived.Test.YtnndlgdlligjbaaWTell
import Derived.Test.YtnndlgdlligjbaaFrameS
namespace Go.Proofs.Ytnndlgdlligjbaa
open Go.RowKit Go.Shelf Go.Deep
theorem umodn (z : Int) (m : Nat) (h0 : 0 < m) (hm : m ≤ 64) : ∃ p : Nat, p < m ∧ wrap64 ((IntKind.u64.wrap z).tmod (m : Int)) = (p : Int) := by
  rw [IntKind.wrap_u64]
  have h0' : 0 ≤ z % 18446744073709551616 := Int.emod_nonneg _ (by decide)
  generalize z % 18446744073709551616 = q at h0'
  rw [Int.tmod_eq_emod_of_nonneg h0']
  have h1 := Int.emod_nonneg q (b := (m : Int)) (by omega)
  have h2 := Int.emod_lt_of_pos q (b := (m : Int)) (by omega)
  refine ⟨(q % (m : Int)).toNat, by omega, ?_⟩
  generalize q % (m : Int) = r at h1 h2
  simp only [wrap64]
  omega
/-- among so many that follow one another just one is met -/
def hits (N f n k : Nat) : Nat := ((List.range k).filter fun i => decide ((f + i) % N = n)).length
theorem hits_yes {N f n k : Nat} (h : (f + k) % N = n) : hits N f n (k + 1) = hits N f n k + 1 := by
  unfold hits; rw [filter_yes _ _ (decide_eq_true h), List.length_append]; rfl
theorem hits_no {N f n k : Nat} (h : ¬ (f + k) % N = n) : hits N f n (k + 1) = hits N f n k := by
  unfold hits; rw [filter_no _ _ (decide_eq_false h)]
theorem hits_le (N f n k : Nat) : hits N f n k ≤ k := filter_le _ _
theorem mod_step (a N : Nat) (hN : 0 < N) : (a + 1) % N = if a % N + 1 = N then 0 else a % N + 1 := by
  rw [Nat.add_mod]
  have h := Nat.mod_lt a hN
  by_cases h1 : N = 1
  · subst h1; simp [Nat.mod_one]
  · rw [Nat.mod_eq_of_lt (show 1 < N by omega)]
    split
    · rename_i e; rw [e, Nat.mod_self]
    · exact Nat.mod_eq_of_lt (by omega)
theorem hits_up {N f n : Nat} (hN : 0 < N) (hn : n < N) : ∀ k, k ≤ N → hits N f n k = if (n + N - f % N) % N < k then 1 else 0
  | 0, _ => by simp [hits]
  | k + 1, hk => by
    have ih := hits_up (f := f) hN hn k (by omega)
    have hf := Nat.mod_lt f hN
    have e : (f + k) % N = if f % N + k < N then f % N + k else f % N + k - N := by
      rw [← Nat.mod_add_mod]
      split
      · exact Nat.mod_eq_of_lt (by assumption)
      · rw [Nat.mod_eq_sub_mod (by omega), Nat.mod_eq_of_lt (by omega)]
    have e2 : (n + N - f % N) % N = if f % N ≤ n then n - f % N else n + N - f % N := by
      split
      · rw [show n + N - f % N = (n - f % N) + N from by omega, Nat.add_mod_right, Nat.mod_eq_of_lt (by omega)]
      · exact Nat.mod_eq_of_lt (by omega)
    by_cases h : (f + k) % N = n
    · rw [hits_yes h, ih]
      rw [e] at h
      rw [e2]
      split at h <;> split <;> first | (exfalso; omega) | (rw [if_neg (by omega), if_pos (by omega)])
    · rw [hits_no h, ih]
      rw [e] at h
      rw [e2]
      split at h <;> split <;> (congr 1; apply propext; constructor <;> intro _ <;> omega)
theorem hits_one {N f n : Nat} (hN : 0 < N) (hn : n < N) : hits N f n N = 1 := by
  rw [hits_up hN hn N (Nat.le_refl _), if_pos (Nat.mod_lt _ hN)]
theorem mod_two {x N : Nat} (h : x < N + N) : x % N = if x < N then x else x - N := by
  split
  · exact Nat.mod_eq_of_lt (by assumption)
  · rw [Nat.mod_eq_sub_mod (by omega), Nat.mod_eq_of_lt (by omega)]
theorem mod_cancel {a b E N : Nat} (ha : a < N) (hb : b < N) (h : (a + E) % N = (b + E) % N) : a = b := by
  have hE := Nat.mod_lt E (show 0 < N by omega)
  have h2 : (a + E % N) % N = (b + E % N) % N := by rw [Nat.add_mod_mod, Nat.add_mod_mod]; exact h
  generalize E % N = r at *
  rw [mod_two (x := a + r) (by omega), mod_two (x := b + r) (by omega)] at h2
  split at h2 <;> split at h2 <;> omega
theorem firstU_head {N B E n b : Nat} (hBN : B ≤ N) (hb : b < B) (h : (b + E) % N = n) : firstU N E n B = [b] := by
  have key : ∀ k, k ≤ B → firstU N E n k = if b < k then [b] else [] := by
    intro k
    induction k with
    | zero => intro _; simp [firstU]
    | succ k ih =>
      intro hk
      have ih := ih (by omega)
      by_cases hkb : k = b
      · subst hkb
        rw [firstU_yes h, ih]; simp
      · have hne : ¬ (k + E) % N = n := by
          intro h2
          have h3 : (k + E) % N = (b + E) % N := by rw [h2, h]
          exact hkb (mod_cancel (by omega) (by omega) h3)
        rw [firstU_no hne, ih]
        by_cases hbk : b < k
        · rw [if_pos hbk, if_pos (by omega)]
        · rw [if_neg hbk, if_neg (by omega)]
  rw [key B (Nat.le_refl _), if_pos hb]
theorem round_first {c : Cfg} {N B E n b : Nat} {zs : List Int} (ok : CfgOk c N B) (hm : mayC c (E : Int) = true) (hn : n < N) (hz : (n : Int) ∈ zs) (hb : b < B) (h : (b + E) % N = n) :
    ∃ t, bucketsL c (E : Int) zs (n : Int) = b :: t := by
  rw [bucketsL_yes hm ok.n ok.b hn hz]
  exact ⟨_, by unfold bucketsN; rw [firstU_head ok.bn hb h]; rfl⟩
theorem round_own {N E n b : Nat} {zs : List Int} (hN : 1 ≤ N) (hz : (n : Int) ∈ zs) (h : (b + E) % N = n) : ownI N E zs b = (n : Int) := by
  unfold ownI
  rw [own_mod, own_first (by omega) (by rw [h]; exact decide_eq_true hz), h]; rfl
theorem new_one (w : World) (x : Int) : (w.alloc (.cells #[.int .i64 x] 3)).ownsRow w.heap.size 3 1 (.slice (some ⟨w.heap.size, 0, none⟩) 1 1) 1 [.int .i64 x] :=
  ⟨by simp, .inr ⟨w.heap.size, 1, #[.int .i64 x], rfl, Nat.le_refl _, World.alloc_heap_new w _, by omega, by unfold maxLen; omega, by simp, by simp⟩⟩
set_option maxRecDepth 100000 in
set_option maxHeartbeats 4000000 in
theorem round_walk (c : Cfg) (x y z : Int) (a : Option Addr) (len cap : Nat) (w : World) (hr : IsRows w a len) :
    Calls Try.prog 5 #[(.agg #[.int .i64 c.n, .int .i64 c.cl, .int .i64 c.wi, .int .i64 c.bu, .int .i64 c.ca, .int .i64 c.sl, .int .i64 c.rq, .int .i64 c.ti, .int .i64 c.pe, .int .i64 c.la]), .int .i64 x, .int .i64 y, .int .i64 z, .slice a len cap] w fun e w' => e = .returned (.bool true) ∧ Below w.heap.size w w' := by
  obtain ⟨i0, hi, hz0, hz1, hz2⟩ := info_parts info3
  have hB1 : Below w.heap.size w (w.alloc (.cells #[.int .i64 c.n, .int .i64 c.cl, .int .i64 c.wi, .int .i64 c.bu, .int .i64 c.ca, .int .i64 c.sl, .int .i64 c.rq, .int .i64 c.ti, .int .i64 c.pe, .int .i64 c.la] 23)) := (Below.refl _ w).alloc (Nat.le_refl _) _
  have k0 := CfgAt.new w c
  have hs1 : (w.alloc (.cells #[.int .i64 c.n, .int .i64 c.cl, .int .i64 c.wi, .int .i64 c.bu, .int .i64 c.ca, .int .i64 c.sl, .int .i64 c.rq, .int .i64 c.ti, .int .i64 c.pe, .int .i64 c.la] 23)).heap.size = w.heap.size + 1 := by simp only [World.size_alloc]
  have c1 := fun w => lgood_any c w
  have fin : ∀ {W W' : World}, Below w.heap.size w W → Below W.heap.size W W' → Below w.heap.size w W' := fun h k => h.trans (k.mono h.size)
  go_enter Try.func5, Try.ntmps5
  go_wp2_with fail
  obtain ⟨w1, hw1⟩ : ∃ w1, w.alloc (.cells #[.int .i64 c.n, .int .i64 c.cl, .int .i64 c.wi, .int .i64 c.bu, .int .i64 c.ca, .int .i64 c.sl, .int .i64 c.rq, .int .i64 c.ti, .int .i64 c.pe, .int .i64 c.la] 23) = w1 := ⟨_, rfl⟩
  rw [hw1] at hB1 k0 hs1 ⊢
  clear hw1
  cases hm : goodC c
  · simp only [errC_no hm] at c1
    clear hm
    refine (c1 w1).mono ?_
    rintro e w4 ⟨rfl, hb4⟩
    have hB4 := fin hB1 hb4
    clear hB1 hb4 k0 hs1 c1 hr
    go_wp2_with fail
    refine (lives11_any _).mono ?_
    rintro e w9 ⟨rfl, hb9⟩
    go_wp2_with fail
    go_ret
    exact ⟨rfl, fin hB4 hb9⟩
  · simp only [errC_yes hm] at c1
    refine (c1 w1).mono ?_
    rintro e w4 ⟨rfl, hb4⟩
    have hB4 := fin hB1 hb4
    have k4 := k0.below hb4
    have HM := hide hm
    clear hB1 hb4 k0 hs1 c1 hm
    by_cases hx1 : x < 1
    · clear k4
      go_wp2_with fail
      refine (lives11_any _).mono ?_
      rintro e w9 ⟨rfl, hb9⟩
      go_wp2_with fail
      go_ret
      exact ⟨rfl, fin hB4 hb9⟩
    · by_cases hx2 : 1048512 < x
      · clear k4
        go_wp2_with fail
        refine (lives11_any _).mono ?_
        rintro e w9 ⟨rfl, hb9⟩
        go_wp2_with fail
        go_ret
        exact ⟨rfl, fin hB4 hb9⟩
      · by_cases hl : 100 < len
        · have hl' : (100 : Int) < (len : Int) := by omega
          clear k4
          go_wp2_with fail
          refine (lives11_any _).mono ?_
          rintro e w9 ⟨rfl, hb9⟩
          go_wp2_with fail
          go_ret
          exact ⟨rfl, fin hB4 hb9⟩
        · obtain ⟨E, rfl⟩ := Int.eq_ofNat_of_zero_le (show 0 ≤ x by omega)
          have hE1 : 1 ≤ E := by omega
          have hE2 : E ≤ 1048512 := by omega
          obtain ⟨N, B, ok⟩ := cfgOk HM.out
          have HOK := hide ok
          have hN1 : 1 ≤ N := by have := ok.n4; omega
          have hN64 := ok.n64
          have hB0 : 1 ≤ B := ok.b1
          have hB64 : B ≤ 64 := by have := ok.bn; omega
          obtain ⟨n, hn, en⟩ := umodn y N (by omega) hN64
          obtain ⟨b, hb, eb⟩ := umodn z B (by omega) hB64
          have d1 : decide ((E : Int) < 1) = false := decide_eq_false (by omega)
          have d2 : decide ((1048512 : Int) < (E : Int)) = false := decide_eq_false (by omega)
          have d3 : decide ((100 : Int) < (len : Int)) = false := decide_eq_false (by omega)
          have d4 : decide (100 < len) = false := decide_eq_false (by omega)
          have hl100 : len ≤ 100 := by omega
          obtain ⟨q0, -, -, q3, -, -, -, -, -, -⟩ := k4.cells
          rw [ok.n] at q0
          rw [ok.b] at q3
          clear ok hx1 hx2 hl
          go_wp2_with fail
          go_quiet (fail)
          rw [en, eb]
          obtain ⟨w6, hw6⟩ : ∃ w6, w4.drewN nq = w6 := ⟨_, rfl⟩
          have hb6 : Below w4.heap.size w4 w6 := by rw [← hw6]; exact below_drewN (Below.refl _ _) _
          rw [hw6]
          have hB6 := fin hB4 hb6
          have k6 := k4.below hb6
          clear hw6 hb6 k4 hB4 q0 q3 d1 d2 d3 d4 en eb
          obtain ⟨q0, -, -, -, -, -, -, -, -, -⟩ := k6.cells
          rw [HOK.out.n] at q0
          go_wp2_with fail
          go_loopw [13, 50] (fun mv iv wr => ∃ k m : Nat, k ≤ N ∧ iv = .int .i64 (k : Int) ∧ mv = .int .i64 (m : Int) ∧ m ≤ 64 ∧ Hid (m = hits N (b + E) n k) ∧ Below w6.heap.size w6 wr) (fun _ iv _ => N - (intOf iv).toNat)
          case atStart => exact ⟨0, 0, by omega, rfl, rfl, by omega, hide rfl, Below.refl _ _⟩
          case round =>
            obtain ⟨k, m, hk, rfl, rfl, hm64, HMM, hbr⟩ := hrel
            have hBr := fin hB6 hbr
            by_cases hkN : k < N
            · have hmk : m ≤ k := by rw [HMM.out]; exact hits_le _ _ _ _
              have bnew : Below wr.heap.size wr (wr.alloc (.cells #[.int .i64 (n : Int)] 3)) := (Below.refl _ _).alloc (Nat.le_refl _) _
              have onew := new_one wr (n : Int)
              by_cases hkl : k < len
              · have hrr := hr.below (fin hBr bnew)
                have hkI : (k : Int) < (len : Int) := by omega
                obtain ⟨bb, off, rfl, hbb, hrow⟩ := hrr.2.resolve_left (by omega)
                obtain ⟨ai, zi, ci, hci, hri⟩ := hrow k hkl
                have e1 : decide (k < len) = true := decide_eq_true hkl
                have e2 : decide ((k : Int) < (len : Int)) = true := decide_eq_true hkI
                clear hrow
                by_cases hzi : zi.length < 200
                · have hziI : (zi.length : Int) < 200 := by omega
                  have e4 : decide (zi.length < 200) = true := decide_eq_true hzi
                  have e5 : decide ((zi.length : Int) < 200) = true := decide_eq_true hziI
                  have hsrc := hri.src ci
                  go_wp2_with (at_builtin; refine wpList_append_own_src _ rfl _ _ 24 24 rfl wr.heap.size 3 i0 (.int .i64 0) 1 8 Try.underlying24 hi hz0 hz1 hz2 rfl _ 1 [.int .i64 (n : Int)] rfl (new_one wr (n : Int)) (.slice ai zi.length ci) zi.length (zi.map (Value.int .i64)) rfl hsrc ?c1 ?c2 bnew.size ?_)
                  case c1 => unfold maxLen; omega
                  case c2 => omega
                  intro v' w7 hown hgr
                  have hb7 : Below wr.heap.size wr w7 := bnew.grown hgr bnew.size (fun j hj => (onew.lt j hj).1)
                  have HB7 : Below w6.heap.size w6 w7 := hbr.trans (hb7.mono hbr.size)
                  have hown2 : w7.ownsRow wr.heap.size 3 1 v' ((n : Int) :: zi).length (((n : Int) :: zi).map (Value.int .i64)) := by
                    have : ((n : Int) :: zi).length = 1 + zi.length := by simp; omega
                    rw [this]; exact hown
                  have hlz : ((n : Int) :: zi).length ≤ 100000 := by simp; omega
                  obtain ⟨AA, CC, rfl, hRL⟩ := own_rowI hown2 (by unfold maxLen; omega)
                  have hmemn : Hid ((n : Int) ∈ (n : Int) :: zi) := hide (by simp)
                  generalize (n : Int) :: zi = LS at *
                  clear e1 e2 e4 e5 hci hown hgr hsrc hown2
                  have hz : Hid ((n : Int) ∈ LS) := hmemn
                  have cB := buckets_any c ((E + k : Nat) : Int) AA CC LS (n : Int) w7 hRL hlz
                  have ok := HOK.out
                  have hmay : mayC c ((E + k : Nat) : Int) = true := mayC_mk HM.out (by omega) (by omega)
                  have cO := fun w h => lOwner_any c ((E + k : Nat) : Int) AA CC LS (b : Int) w h hlz
                  simp only [ownerI_yes hmay ok.n (show (b : Int) < c.bu by rw [ok.b]; omega)] at cO
                  have hBL := bucketsL_len c ((E + k : Nat) : Int) (n : Int) LS
                  have e3 : ((b : Int) + (E : Int) + (k : Int)) % (N : Int) = (((b + (E + k)) % N : Nat) : Int) := by rw [rem3, Nat.add_assoc]
                  have eEk : ((E + k : Nat) : Int) = (E : Int) + (k : Int) := by omega
                  have hy := fun h => round_first ok hmay hn hz.out hb h
                  have ho := fun h => round_own (zs := LS) (E := E + k) (b := b) hN1 hz.out h
                  have H1 := fun h => hits_yes (N := N) (f := b + E) (n := n) (k := k) h
                  have H2 := fun h => hits_no (N := N) (f := b + E) (n := n) (k := k) h
                  rw [Nat.add_assoc] at H1 H2
                  obtain ⟨BL, hBLe⟩ : ∃ BL, Hid (bucketsL c ((E + k : Nat) : Int) LS (n : Int) = BL) := ⟨_, hide rfl⟩
                  rw [hBLe.out] at cB hy hBL
                  obtain ⟨O, hO⟩ : ∃ O, Hid (ownI N (E + k) LS b = O) := ⟨_, hide rfl⟩
                  simp only [hO.out] at cO
                  rw [hO.out] at ho
                  obtain ⟨T, hT⟩ : ∃ T, Hid ((b + (E + k)) % N = T) := ⟨_, hide rfl⟩
                  rw [hT.out] at e3 hy ho H1 H2
                  rw [eEk] at cB
                  simp only [eEk] at cO
                  obtain ⟨p0, p1, p2, p3, p4, p5, p6, p7, p8, p9⟩ := (k6.below HB7).cells
                  clear ok hmay hBLe hO hT eEk hz
                  go_wp2_with fail
                  refine cB.mono ?_
                  rintro e w8 ⟨v, rfl, hrow8, hb8⟩
                  obtain ⟨v8, c8, rfl, hr8⟩ := own_set hrow8 hBL
                  have hB8 : Below w6.heap.size w6 w8 := HB7.trans (hb8.mono HB7.size)
                  clear p0 p1 p2 p3 p4 p5 p6 p7 p8 p9 hrow8 cB
                  obtain ⟨p0, p1, p2, p3, p4, p5, p6, p7, p8, p9⟩ := (k6.below hB8).cells
                  have cO := cO w8 (hRL.below hb8)
                  have p0N := p0
                  rw [HOK.out.n] at p0N
                  by_cases ht : T = n
                  · obtain ⟨t, rfl⟩ := hy ht
                    have ho := ho ht
                    subst ho
                    have H := hide (H1 ht)
                    subst ht
                    clear H1 H2 hy
                    have hlb : (0 : Int) < ((b :: t).length : Int) := by first | (simp; done) | (simp; omega)
                    obtain ⟨b9, o9, rfl, hc9⟩ := rowI_cell hr8 (Below.refl _ _) (show 0 < (ints (b :: t)).length by simp [ints])
                    have hge : (ints (b :: t))[0]'(by simp [ints]) = (b : Int) := by simp [ints]
                    rw [hge] at hc9
                    rw [Nat.add_zero] at hc9
                    obtain ⟨bl, hbl⟩ : ∃ bl, Hid ((b :: t).length = bl) := ⟨_, hide rfl⟩
                    rw [hbl.out] at hlb
                    simp only [hbl.out]
                    have hl2 : decide ((0 : Int) < (bl : Int)) = true := decide_eq_true hlb
                    have hl3 : decide (0 < bl) = true := decide_eq_true (by omega)
                    have hl4 : 0 < bl := by omega
                    clear hge hr8 hbl
                    go_wp2_with fail
                    refine cO.mono ?_
                    rintro e w10 ⟨rfl, hb10⟩
                    have hB10 : Below w6.heap.size w6 w10 := hB8.trans (hb10.mono hB8.size)
                    clear p0 p1 p2 p3 p4 p5 p6 p7 p8 p9 p0N
                    obtain ⟨p0, -, -, -, -, -, -, -, -, -⟩ := (k6.below hB10).cells
                    rw [HOK.out.n] at p0
                    go_wp2_with fail
                    go_roundw
                    case rel => exact ⟨k + 1, m + 1, by omega, by go_num, by go_num, by omega, hide (by rw [H.out, HMM.out]), hB10⟩
                    case measure => simp [intOf]; omega
                  · have H := hide (H2 ht)
                    have hTn : ((T : Int) == (n : Int)) = false := by simp; omega
                    have hREL : Hid (m = hits N (b + E) n (k + 1)) := hide (by rw [H.out, HMM.out])
                    clear H1 H2 hy ho H
                    by_cases hbl0 : BL.length = 0
                    · have hl2 : decide ((0 : Int) < (BL.length : Int)) = false := decide_eq_false (by omega)
                      have hl3 : decide (0 < BL.length) = false := decide_eq_false (by omega)
                      obtain ⟨bl, hbl⟩ : ∃ bl, Hid (BL.length = bl) := ⟨_, hide rfl⟩
                      rw [hbl.out] at hl2 hl3
                      simp only [hbl.out]
                      clear hbl0 hr8 hbl
                      go_wp2_with fail
                      go_roundw
                      case rel => exact ⟨k + 1, m, by omega, by go_num, by go_num, by omega, hREL, hB8⟩
                      case measure => simp [intOf]; omega
                    · have hpos : 0 < BL.length := by omega
                      obtain ⟨b9, o9, rfl, hc9⟩ := rowI_cell hr8 (Below.refl _ _) (show 0 < (ints BL).length by rw [ints_length]; exact hpos)
                      rw [Nat.add_zero] at hc9
                      generalize (ints BL)[0]'(by rw [ints_length]; exact hpos) = f0 at hc9
                      have hl2 : decide ((0 : Int) < (BL.length : Int)) = true := decide_eq_true (by omega)
                      have hl3 : decide (0 < BL.length) = true := decide_eq_true (by omega)
                      obtain ⟨bl, hbl⟩ : ∃ bl, Hid (BL.length = bl) := ⟨_, hide rfl⟩
                      rw [hbl.out] at hl2 hl3 hpos
                      simp only [hbl.out]
                      have hposI : (0 : Int) < (bl : Int) := by omega
                      clear hbl0 hr8 hbl
                      by_cases hf0 : f0 = (b : Int)
                      · subst hf0
                        go_wp2_with fail
                        refine cO.mono ?_
                        rintro e w10 ⟨rfl, hb10⟩
                        have hB10 : Below w6.heap.size w6 w10 := hB8.trans (hb10.mono hB8.size)
                        clear p0 p1 p2 p3 p4 p5 p6 p7 p8 p9 p0N cO hc9
                        obtain ⟨p0, -, -, -, -, -, -, -, -, -⟩ := (k6.below hB10).cells
                        rw [HOK.out.n] at p0
                        by_cases hOn : O = (n : Int)
                        · subst hOn
                          go_wp2_with fail
                          go_roundw
                          case rel => exact ⟨k + 1, m, by omega, by go_num, by go_num, by omega, hREL, hB10⟩
                          case measure => simp [intOf]; omega
                        · have hOn' : (O == (n : Int)) = false := by simpa using hOn
                          go_wp2_with fail
                          go_roundw
                          case rel => exact ⟨k + 1, m, by omega, by go_num, by go_num, by omega, hREL, hB10⟩
                          case measure => simp [intOf]; omega
                      · have hf0' : (f0 == (b : Int)) = false := by simpa using hf0
                        go_wp2_with fail
                        go_roundw
                        case rel => exact ⟨k + 1, m, by omega, by go_num, by go_num, by omega, hREL, hB8⟩
                        case measure => simp [intOf]; omega
                · have hziI : ¬ (zi.length : Int) < 200 := by omega
                  have e4 : decide (zi.length < 200) = false := decide_eq_false hzi
                  have e5 : decide ((zi.length : Int) < 200) = false := decide_eq_false hziI
                  have HB7 : Below w6.heap.size w6 (wr.alloc (.cells #[.int .i64 (n : Int)] 3)) := hbr.trans (bnew.mono hbr.size)
                  obtain ⟨w7, hw7⟩ : ∃ w7, wr.alloc (.cells #[.int .i64 (n : Int)] 3) = w7 := ⟨_, rfl⟩
                  rw [hw7] at HB7 onew hci
                  have hRL : RowI w7 (some ⟨wr.heap.size, 0, none⟩) [(n : Int)] := by rw [← hw7]; exact row_new wr [(n : Int)] (by simp)
                  have hmemn : Hid ((n : Int) ∈ [(n : Int)]) := hide (by simp)
                  have hz : Hid ((n : Int) ∈ [(n : Int)]) := hmemn
                  have cB := buckets_any c ((E + k : Nat) : Int) (some ⟨wr.heap.size, 0, none⟩) 1 [(n : Int)] (n : Int) w7 hRL (by simp)
                  have ok := HOK.out
                  have hmay : mayC c ((E + k : Nat) : Int) = true := mayC_mk HM.out (by omega) (by omega)
                  have cO := fun w h => lOwner_any c ((E + k : Nat) : Int) (some ⟨wr.heap.size, 0, none⟩) 1 [(n : Int)] (b : Int) w h (by simp)
                  simp only [ownerI_yes hmay ok.n (show (b : Int) < c.bu by rw [ok.b]; omega)] at cO
                  have hBL := bucketsL_len c ((E + k : Nat) : Int) (n : Int) [(n : Int)]
                  have e3 : ((b : Int) + (E : Int) + (k : Int)) % (N : Int) = (((b + (E + k)) % N : Nat) : Int) := by rw [rem3, Nat.add_assoc]
                  have eEk : ((E + k : Nat) : Int) = (E : Int) + (k : Int) := by omega
                  have hy := fun h => round_first ok hmay hn hz.out hb h
                  have ho := fun h => round_own (zs := [(n : Int)]) (E := E + k) (b := b) hN1 hz.out h
                  have H1 := fun h => hits_yes (N := N) (f := b + E) (n := n) (k := k) h
                  have H2 := fun h => hits_no (N := N) (f := b + E) (n := n) (k := k) h
                  rw [Nat.add_assoc] at H1 H2
                  obtain ⟨BL, hBLe⟩ : ∃ BL, Hid (bucketsL c ((E + k : Nat) : Int) [(n : Int)] (n : Int) = BL) := ⟨_, hide rfl⟩
                  rw [hBLe.out] at cB hy hBL
                  obtain ⟨O, hO⟩ : ∃ O, Hid (ownI N (E + k) [(n : Int)] b = O) := ⟨_, hide rfl⟩
                  simp only [hO.out] at cO
                  rw [hO.out] at ho
                  obtain ⟨T, hT⟩ : ∃ T, Hid ((b + (E + k)) % N = T) := ⟨_, hide rfl⟩
                  rw [hT.out] at e3 hy ho H1 H2
                  rw [eEk] at cB
                  simp only [eEk] at cO
                  obtain ⟨p0, p1, p2, p3, p4, p5, p6, p7, p8, p9⟩ := (k6.below HB7).cells
                  clear ok hmay hBLe hO hT eEk hz
                  go_wp2_with fail
                  refine cB.mono ?_
                  rintro e w8 ⟨v, rfl, hrow8, hb8⟩
                  obtain ⟨v8, c8, rfl, hr8⟩ := own_set hrow8 hBL
                  have hB8 : Below w6.heap.size w6 w8 := HB7.trans (hb8.mono HB7.size)
                  clear p0 p1 p2 p3 p4 p5 p6 p7 p8 p9 hrow8 cB
                  obtain ⟨p0, p1, p2, p3, p4, p5, p6, p7, p8, p9⟩ := (k6.below hB8).cells
                  have cO := cO w8 (hRL.below hb8)
                  have p0N := p0
                  rw [HOK.out.n] at p0N
                  by_cases ht : T = n
                  · obtain ⟨t, rfl⟩ := hy ht
                    have ho := ho ht
                    subst ho
                    have H := hide (H1 ht)
                    subst ht
                    clear H1 H2 hy
                    have hlb : (0 : Int) < ((b :: t).length : Int) := by first | (simp; done) | (simp; omega)
                    obtain ⟨b9, o9, rfl, hc9⟩ := rowI_cell hr8 (Below.refl _ _) (show 0 < (ints (b :: t)).length by simp [ints])
                    have hge : (ints (b :: t))[0]'(by simp [ints]) = (b : Int) := by simp [ints]
                    rw [hge] at hc9
                    rw [Nat.add_zero] at hc9
                    obtain ⟨bl, hbl⟩ : ∃ bl, Hid ((b :: t).length = bl) := ⟨_, hide rfl⟩
                    rw [hbl.out] at hlb
                    simp only [hbl.out]
                    have hl2 : decide ((0 : Int) < (bl : Int)) = true := decide_eq_true hlb
                    have hl3 : decide (0 < bl) = true := decide_eq_true (by omega)
                    have hl4 : 0 < bl := by omega
                    clear hge hr8 hbl
                    go_wp2_with fail
                    refine cO.mono ?_
                    rintro e w10 ⟨rfl, hb10⟩
                    have hB10 : Below w6.heap.size w6 w10 := hB8.trans (hb10.mono hB8.size)
                    clear p0 p1 p2 p3 p4 p5 p6 p7 p8 p9 p0N
                    obtain ⟨p0, -, -, -, -, -, -, -, -, -⟩ := (k6.below hB10).cells
                    rw [HOK.out.n] at p0
                    go_wp2_with fail
                    go_roundw
                    case rel => exact ⟨k + 1, m + 1, by omega, by go_num, by go_num, by omega, hide (by rw [H.out, HMM.out]), hB10⟩
                    case measure => simp [intOf]; omega
                  · have H := hide (H2 ht)
                    have hTn : ((T : Int) == (n : Int)) = false := by simp; omega
                    have hREL : Hid (m = hits N (b + E) n (k + 1)) := hide (by rw [H.out, HMM.out])
                    clear H1 H2 hy ho H
                    by_cases hbl0 : BL.length = 0
                    · have hl2 : decide ((0 : Int) < (BL.length : Int)) = false := decide_eq_false (by omega)
                      have hl3 : decide (0 < BL.length) = false := decide_eq_false (by omega)
                      obtain ⟨bl, hbl⟩ : ∃ bl, Hid (BL.length = bl) := ⟨_, hide rfl⟩
                      rw [hbl.out] at hl2 hl3
                      simp only [hbl.out]
                      clear hbl0 hr8 hbl
                      go_wp2_with fail
                      go_roundw
                      case rel => exact ⟨k + 1, m, by omega, by go_num, by go_num, by omega, hREL, hB8⟩
                      case measure => simp [intOf]; omega
                    · have hpos : 0 < BL.length := by omega
                      obtain ⟨b9, o9, rfl, hc9⟩ := rowI_cell hr8 (Below.refl _ _) (show 0 < (ints BL).length by rw [ints_length]; exact hpos)
                      rw [Nat.add_zero] at hc9
                      generalize (ints BL)[0]'(by rw [ints_length]; exact hpos) = f0 at hc9
                      have hl2 : decide ((0 : Int) < (BL.length : Int)) = true := decide_eq_true (by omega)
                      have hl3 : decide (0 < BL.length) = true := decide_eq_true (by omega)
                      obtain ⟨bl, hbl⟩ : ∃ bl, Hid (BL.length = bl) := ⟨_, hide rfl⟩
                      rw [hbl.out] at hl2 hl3 hpos
                      simp only [hbl.out]
                      have hposI : (0 : Int) < (bl : Int) := by omega
                      clear hbl0 hr8 hbl
                      by_cases hf0 : f0 = (b : Int)
                      · subst hf0
                        go_wp2_with fail
                        refine cO.mono ?_
                        rintro e w10 ⟨rfl, hb10⟩
                        have hB10 : Below w6.heap.size w6 w10 := hB8.trans (hb10.mono hB8.size)
                        clear p0 p1 p2 p3 p4 p5 p6 p7 p8 p9 p0N cO hc9
                        obtain ⟨p0, -, -, -, -, -, -, -, -, -⟩ := (k6.below hB10).cells
                        rw [HOK.out.n] at p0
                        by_cases hOn : O = (n : Int)
                        · subst hOn
                          go_wp2_with fail
                          go_roundw
                          case rel => exact ⟨k + 1, m, by omega, by go_num, by go_num, by omega, hREL, hB10⟩
                          case measure => simp [intOf]; omega
                        · have hOn' : (O == (n : Int)) = false := by simpa using hOn
                          go_wp2_with fail
                          go_roundw
                          case rel => exact ⟨k + 1, m, by omega, by go_num, by go_num, by omega, hREL, hB10⟩
                          case measure => simp [intOf]; omega
                      · have hf0' : (f0 == (b : Int)) = false := by simpa using hf0
                        go_wp2_with fail
                        go_roundw
                        case rel => exact ⟨k + 1, m, by omega, by go_num, by go_num, by omega, hREL, hB8⟩
                        case measure => simp [intOf]; omega
              · have hkI : ¬ (k : Int) < (len : Int) := by omega
                have e1 : decide (k < len) = false := decide_eq_false hkl
                have e2 : decide ((k : Int) < (len : Int)) = false := decide_eq_false hkI
                have HB7 : Below w6.heap.size w6 (wr.alloc (.cells #[.int .i64 (n : Int)] 3)) := hbr.trans (bnew.mono hbr.size)
                obtain ⟨w7, hw7⟩ : ∃ w7, wr.alloc (.cells #[.int .i64 (n : Int)] 3) = w7 := ⟨_, rfl⟩
                rw [hw7] at HB7 onew
                have hRL : RowI w7 (some ⟨wr.heap.size, 0, none⟩) [(n : Int)] := by rw [← hw7]; exact row_new wr [(n : Int)] (by simp)
                have hmemn : Hid ((n : Int) ∈ [(n : Int)]) := hide (by simp)
                have hz : Hid ((n : Int) ∈ [(n : Int)]) := hmemn
                have cB := buckets_any c ((E + k : Nat) : Int) (some ⟨wr.heap.size, 0, none⟩) 1 [(n : Int)] (n : Int) w7 hRL (by simp)
                have ok := HOK.out
                have hmay : mayC c ((E + k : Nat) : Int) = true := mayC_mk HM.out (by omega) (by omega)
                have cO := fun w h => lOwner_any c ((E + k : Nat) : Int) (some ⟨wr.heap.size, 0, none⟩) 1 [(n : Int)] (b : Int) w h (by simp)
                simp only [ownerI_yes hmay ok.n (show (b : Int) < c.bu by rw [ok.b]; omega)] at cO
                have hBL := bucketsL_len c ((E + k : Nat) : Int) (n : Int) [(n : Int)]
                have e3 : ((b : Int) + (E : Int) + (k : Int)) % (N : Int) = (((b + (E + k)) % N : Nat) : Int) := by rw [rem3, Nat.add_assoc]
                have eEk : ((E + k : Nat) : Int) = (E : Int) + (k : Int) := by omega
                have hy := fun h => round_first ok hmay hn hz.out hb h
                have ho := fun h => round_own (zs := [(n : Int)]) (E := E + k) (b := b) hN1 hz.out h
                have H1 := fun h => hits_yes (N := N) (f := b + E) (n := n) (k := k) h
                have H2 := fun h => hits_no (N := N) (f := b + E) (n := n) (k := k) h
                rw [Nat.add_assoc] at H1 H2
                obtain ⟨BL, hBLe⟩ : ∃ BL, Hid (bucketsL c ((E + k : Nat) : Int) [(n : Int)] (n : Int) = BL) := ⟨_, hide rfl⟩
                rw [hBLe.out] at cB hy hBL
                obtain ⟨O, hO⟩ : ∃ O, Hid (ownI N (E + k) [(n : Int)] b = O) := ⟨_, hide rfl⟩
                simp only [hO.out] at cO
                rw [hO.out] at ho
                obtain ⟨T, hT⟩ : ∃ T, Hid ((b + (E + k)) % N = T) := ⟨_, hide rfl⟩
                rw [hT.out] at e3 hy ho H1 H2
                rw [eEk] at cB
                simp only [eEk] at cO
                obtain ⟨p0, p1, p2, p3, p4, p5, p6, p7, p8, p9⟩ := (k6.below HB7).cells
                clear ok hmay hBLe hO hT eEk hz
                go_wp2_with fail
                refine cB.mono ?_
                rintro e w8 ⟨v, rfl, hrow8, hb8⟩
                obtain ⟨v8, c8, rfl, hr8⟩ := own_set hrow8 hBL
                have hB8 : Below w6.heap.size w6 w8 := HB7.trans (hb8.mono HB7.size)
                clear p0 p1 p2 p3 p4 p5 p6 p7 p8 p9 hrow8 cB
                obtain ⟨p0, p1, p2, p3, p4, p5, p6, p7, p8, p9⟩ := (k6.below hB8).cells
                have cO := cO w8 (hRL.below hb8)
                have p0N := p0
                rw [HOK.out.n] at p0N
                by_cases ht : T = n
                · obtain ⟨t, rfl⟩ := hy ht
                  have ho := ho ht
                  subst ho
                  have H := hide (H1 ht)
                  subst ht
                  clear H1 H2 hy
                  have hlb : (0 : Int) < ((b :: t).length : Int) := by first | (simp; done) | (simp; omega)
                  obtain ⟨b9, o9, rfl, hc9⟩ := rowI_cell hr8 (Below.refl _ _) (show 0 < (ints (b :: t)).length by simp [ints])
                  have hge : (ints (b :: t))[0]'(by simp [ints]) = (b : Int) := by simp [ints]
                  rw [hge] at hc9
                  rw [Nat.add_zero] at hc9
                  obtain ⟨bl, hbl⟩ : ∃ bl, Hid ((b :: t).length = bl) := ⟨_, hide rfl⟩
                  rw [hbl.out] at hlb
                  simp only [hbl.out]
                  have hl2 : decide ((0 : Int) < (bl : Int)) = true := decide_eq_true hlb
                  have hl3 : decide (0 < bl) = true := decide_eq_true (by omega)
                  have hl4 : 0 < bl := by omega
                  clear hge hr8 hbl
                  go_wp2_with fail
                  refine cO.mono ?_
                  rintro e w10 ⟨rfl, hb10⟩
                  have hB10 : Below w6.heap.size w6 w10 := hB8.trans (hb10.mono hB8.size)
                  clear p0 p1 p2 p3 p4 p5 p6 p7 p8 p9 p0N
                  obtain ⟨p0, -, -, -, -, -, -, -, -, -⟩ := (k6.below hB10).cells
                  rw [HOK.out.n] at p0
                  go_wp2_with fail
                  go_roundw
                  case rel => exact ⟨k + 1, m + 1, by omega, by go_num, by go_num, by omega, hide (by rw [H.out, HMM.out]), hB10⟩
                  case measure => simp [intOf]; omega
                · have H := hide (H2 ht)
                  have hTn : ((T : Int) == (n : Int)) = false := by simp; omega
                  have hREL : Hid (m = hits N (b + E) n (k + 1)) := hide (by rw [H.out, HMM.out])
                  clear H1 H2 hy ho H
                  by_cases hbl0 : BL.length = 0
                  · have hl2 : decide ((0 : Int) < (BL.length : Int)) = false := decide_eq_false (by omega)
                    have hl3 : decide (0 < BL.length) = false := decide_eq_false (by omega)
                    obtain ⟨bl, hbl⟩ : ∃ bl, Hid (BL.length = bl) := ⟨_, hide rfl⟩
                    rw [hbl.out] at hl2 hl3
                    simp only [hbl.out]
                    clear hbl0 hr8 hbl
                    go_wp2_with fail
                    go_roundw
                    case rel => exact ⟨k + 1, m, by omega, by go_num, by go_num, by omega, hREL, hB8⟩
                    case measure => simp [intOf]; omega
                  · have hpos : 0 < BL.length := by omega
                    obtain ⟨b9, o9, rfl, hc9⟩ := rowI_cell hr8 (Below.refl _ _) (show 0 < (ints BL).length by rw [ints_length]; exact hpos)
                    rw [Nat.add_zero] at hc9
                    generalize (ints BL)[0]'(by rw [ints_length]; exact hpos) = f0 at hc9
                    have hl2 : decide ((0 : Int) < (BL.length : Int)) = true := decide_eq_true (by omega)
                    have hl3 : decide (0 < BL.length) = true := decide_eq_true (by omega)
                    obtain ⟨bl, hbl⟩ : ∃ bl, Hid (BL.length = bl) := ⟨_, hide rfl⟩
                    rw [hbl.out] at hl2 hl3 hpos
                    simp only [hbl.out]
                    have hposI : (0 : Int) < (bl : Int) := by omega
                    clear hbl0 hr8 hbl
                    by_cases hf0 : f0 = (b : Int)
                    · subst hf0
                      go_wp2_with fail
                      refine cO.mono ?_
                      rintro e w10 ⟨rfl, hb10⟩
                      have hB10 : Below w6.heap.size w6 w10 := hB8.trans (hb10.mono hB8.size)
                      clear p0 p1 p2 p3 p4 p5 p6 p7 p8 p9 p0N cO hc9
                      obtain ⟨p0, -, -, -, -, -, -, -, -, -⟩ := (k6.below hB10).cells
                      rw [HOK.out.n] at p0
                      by_cases hOn : O = (n : Int)
                      · subst hOn
                        go_wp2_with fail
                        go_roundw
                        case rel => exact ⟨k + 1, m, by omega, by go_num, by go_num, by omega, hREL, hB10⟩
                        case measure => simp [intOf]; omega
                      · have hOn' : (O == (n : Int)) = false := by simpa using hOn
                        go_wp2_with fail
                        go_roundw
                        case rel => exact ⟨k + 1, m, by omega, by go_num, by go_num, by omega, hREL, hB10⟩
                        case measure => simp [intOf]; omega
                    · have hf0' : (f0 == (b : Int)) = false := by simpa using hf0
                      go_wp2_with fail
                      go_roundw
                      case rel => exact ⟨k + 1, m, by omega, by go_num, by go_num, by omega, hREL, hB8⟩
                      case measure => simp [intOf]; omega
            · obtain rfl : k = N := by omega
              have h1 : m = 1 := by rw [HMM.out]; exact hits_one (by omega) hn
              subst h1
              go_wp2_with fail
              refine (lives11_any _).mono ?_
              rintro e w9 ⟨rfl, hb9⟩
              go_wp2_with fail
              go_ret
              exact ⟨rfl, fin hBr hb9⟩
end Go.Proofs.Ytnndlgdlligjbaa
