/- the walk of TapeSure -/
import Derived.Test.YtfkchnjbbbhmjaaT14
namespace Go.Proofs.Ytfkchnjbbbhmjaa
open Go.RowKit
/-- all that was appended, and what of it is sure, as strings -/
structure Arr2 (w : World) (Y : Nat) (M : Mt) : Prop where
  a0 : w.cell? ⟨Y, 0, none⟩ = some (.string (strOf M.a))
  a1 : w.cell? ⟨Y, 1, none⟩ = some (.string (strOf M.b))
  s0 : w.cell? ⟨Y + 1, 0, none⟩ = some (.string (strOf (M.a.take M.sa)))
  s1 : w.cell? ⟨Y + 1, 1, none⟩ = some (.string (strOf (M.b.take M.sb)))
  ta : w.there Y 0 2
  ts : w.there (Y + 1) 0 2
theorem Arr2.at {w w' : World} {Y : Nat} {M : Mt} (h : Arr2 w Y M) (h0 : w'.heap[Y]? = w.heap[Y]?) (h1 : w'.heap[Y + 1]? = w.heap[Y + 1]?) : Arr2 w' Y M :=
  ⟨cell_at h.a0 h0, cell_at h.a1 h0, cell_at h.s0 h1, cell_at h.s1 h1, there_at h.ta h0, there_at h.ts h1⟩
theorem Arr2.lt {w : World} {Y : Nat} {M : Mt} (h : Arr2 w Y M) : Y + 1 < w.heap.size := cell_lt h.s0
theorem Arr2.below {w w' : World} {Y : Nat} {M : Mt} (h : Arr2 w Y M) (hb : Below w.heap.size w w') : Arr2 w' Y M :=
  have := h.lt
  h.at (hb.block _ (by omega)) (hb.block _ h.lt)
theorem Arr2.fz {w : World} {Y : Nat} {M : Mt} (h : Arr2 w Y M) : w.frozen? ⟨Y, 0, none⟩ = false ∧ w.frozen? ⟨Y, 1, none⟩ = false ∧ w.frozen? ⟨Y + 1, 0, none⟩ = false ∧ w.frozen? ⟨Y + 1, 1, none⟩ = false :=
  ⟨(h.ta 0 (by omega)).2, (h.ta 1 (by omega)).2, (h.ts 0 (by omega)).2, (h.ts 1 (by omega)).2⟩
def offY (k : Bool) : Nat := match k with | false => 0 | true => 1
theorem set_cell {w : World} {b o b' o' : Nat} {v u : Value} (h : w.cell? ⟨b, o, none⟩ = some v) (hne : ¬ (b' = b ∧ o' = o)) : (w.setCell ⟨b', o', none⟩ u).cell? ⟨b, o, none⟩ = some v := by
  rw [World.cell?_setCell_other _ _ _ _ (by intro q; injection q with q1 q2 _; exact hne ⟨q1, q2⟩)]; exact h
/-- other strings -/
theorem Arr2.setA {w : World} {Y : Nat} {M M' : Mt} (h : Arr2 w Y M) (k : Bool) (s : ByteArray) (e0 : (match k with | false => s | true => strOf M.a) = strOf M'.a) (e1 : (match k with | false => strOf M.b | true => s) = strOf M'.b)
    (e2 : strOf (M.a.take M.sa) = strOf (M'.a.take M'.sa)) (e3 : strOf (M.b.take M.sb) = strOf (M'.b.take M'.sb)) : Arr2 (w.setCell ⟨Y, offY k, none⟩ (.string s)) Y M' := by
  cases k
  · refine ⟨?_, ?_, ?_, ?_, there_set h.ta _ _, there_set h.ts _ _⟩
    · rw [← e0]; exact World.cell?_setCell_same _ _ _ h.a0
    · rw [← e1]; exact set_cell h.a1 (by simp [offY])
    · rw [← e2]; exact set_cell h.s0 (by simp)
    · rw [← e3]; exact set_cell h.s1 (by simp)
  · refine ⟨?_, ?_, ?_, ?_, there_set h.ta _ _, there_set h.ts _ _⟩
    · rw [← e0]; exact set_cell h.a0 (by simp [offY])
    · rw [← e1]; exact World.cell?_setCell_same _ _ _ h.a1
    · rw [← e2]; exact set_cell h.s0 (by simp)
    · rw [← e3]; exact set_cell h.s1 (by simp)
theorem Arr2.setS {w : World} {Y : Nat} {M M' : Mt} (h : Arr2 w Y M) (k : Bool) (s : ByteArray) (e0 : strOf M.a = strOf M'.a) (e1 : strOf M.b = strOf M'.b)
    (e2 : (match k with | false => s | true => strOf (M.a.take M.sa)) = strOf (M'.a.take M'.sa)) (e3 : (match k with | false => strOf (M.b.take M.sb) | true => s) = strOf (M'.b.take M'.sb)) : Arr2 (w.setCell ⟨Y + 1, offY k, none⟩ (.string s)) Y M' := by
  cases k
  · refine ⟨?_, ?_, ?_, ?_, there_set h.ta _ _, there_set h.ts _ _⟩
    · rw [← e0]; exact set_cell h.a0 (by simp)
    · rw [← e1]; exact set_cell h.a1 (by simp)
    · rw [← e2]; exact World.cell?_setCell_same _ _ _ h.s0
    · rw [← e3]; exact set_cell h.s1 (by simp [offY])
  · refine ⟨?_, ?_, ?_, ?_, there_set h.ta _ _, there_set h.ts _ _⟩
    · rw [← e0]; exact set_cell h.a0 (by simp)
    · rw [← e1]; exact set_cell h.a1 (by simp)
    · rw [← e2]; exact set_cell h.s0 (by simp [offY])
    · rw [← e3]; exact World.cell?_setCell_same _ _ _ h.s1
theorem does_ok {M : Mt} {k : Int} (f : Bool → Mt → Mt) (hon : M.on = true) (hpl : M.pl = false) (hk : k = 0 ∨ k = 1) : M.does k f = (0, f (decide (k = 1)) M.count) := by
  unfold Mt.does
  rw [if_pos (fault_on hon hk), if_neg (by rw [hpl]; simp)]
theorem append_ok {M : Mt} {k : Int} {zs : List Int} (hon : M.on = true) (hpl : M.pl = false) (hk : k = 0 ∨ k = 1) (hr : (M.a.length : Int) + M.b.length + zs.length ≤ M.room) : M.append k zs = (0, Mt.put zs (decide (k = 1)) M.count) := by
  unfold Mt.append
  rw [if_pos (fault_on hon hk), if_neg (by omega), does_ok _ hon hpl hk]
/-- what the loop keeps -/
structure Kept15 (A : Nat → Prop) (w wr : World) (Y n : Nat) (M : Mt) : Prop where
  live : Live A wr w.heap.size M
  arr : Arr2 wr Y M
  on : M.on = true
  pl : M.pl = false
  room : M.room = 1048576
  few : M.a.length + M.b.length ≤ n
  bel : Below w.heap.size w wr
theorem put_few (zs : List Int) (k : Bool) (M : Mt) : (Mt.put zs k M).a.length + (Mt.put zs k M).b.length = M.a.length + M.b.length + zs.length := by
  cases k
  · simp only [Mt.put, Mt.setA, Mt.get, List.length_append]; omega
  · simp only [Mt.put, Mt.setA, Mt.get, List.length_append]; omega
theorem clear_few (k : Bool) (M : Mt) : (M.clear k).a.length + (M.clear k).b.length ≤ M.a.length + M.b.length := by
  cases k
  · simp only [Mt.clear, Mt.setA, List.length_nil]; omega
  · simp only [Mt.clear, Mt.setA, List.length_nil]; omega
theorem Arr2.put {w : World} {Y : Nat} {M : Mt} (h : Arr2 w Y M) (hok : M.ok) (k : Bool) (zs : List Int) : Arr2 (w.setCell ⟨Y, offY k, none⟩ (.string (strOf (M.get k) ++ strOf zs))) Y (Mt.put zs k M.count) := by
  have h1 := hok.sa
  have h2 := hok.sb
  cases k
  · exact h.setA (M' := Mt.put zs false M.count) false _ (strOf_append _ _).symm rfl (congrArg strOf (List.take_append_of_le_length h1).symm) rfl
  · exact h.setA (M' := Mt.put zs true M.count) true _ rfl (strOf_append _ _).symm rfl (congrArg strOf (List.take_append_of_le_length h2).symm)
theorem Arr2.settle {w : World} {Y : Nat} {M : Mt} (h : Arr2 w Y M) (k : Bool) : Arr2 (w.setCell ⟨Y + 1, offY k, none⟩ (.string (strOf (M.get k)))) Y (M.count.settle k) := by
  cases k
  · exact h.setS (M' := M.count.settle false) false _ rfl rfl (congrArg strOf (List.take_length).symm) rfl
  · exact h.setS (M' := M.count.settle true) true _ rfl rfl rfl (congrArg strOf (List.take_length).symm)
theorem Arr2.clear {w : World} {Y : Nat} {M : Mt} (h : Arr2 w Y M) (k : Bool) : Arr2 ((w.setCell ⟨Y, offY k, none⟩ (.string ⟨#[]⟩)).setCell ⟨Y + 1, offY k, none⟩ (.string ⟨#[]⟩)) Y (M.count.clear k) := by
  cases k
  · exact ⟨set_cell (World.cell?_setCell_same _ _ _ h.a0) (by simp), set_cell (set_cell h.a1 (by simp [offY])) (by simp), World.cell?_setCell_same _ _ _ (set_cell h.s0 (by simp)), set_cell (set_cell h.s1 (by simp)) (by simp [offY]), there_set (there_set h.ta _ _) _ _, there_set (there_set h.ts _ _) _ _⟩
  · exact ⟨set_cell (set_cell h.a0 (by simp [offY])) (by simp), set_cell (World.cell?_setCell_same _ _ _ h.a1) (by simp), set_cell (set_cell h.s0 (by simp)) (by simp [offY]), World.cell?_setCell_same _ _ _ (set_cell h.s1 (by simp)), there_set (there_set h.ta _ _) _ _, there_set (there_set h.ts _ _) _ _⟩
theorem wtA_le_take (ys : List Ac) (n : Nat) : wtA (ys.take n) ≤ wtA ys := by
  induction ys generalizing n with
  | nil => simp
  | cons y ys ih =>
    cases n with
    | zero => simp [wtA]
    | succ n =>
      have := ih n
      simp only [wtA, List.take_succ_cons, List.map_cons, List.sum_cons] at *
      omega
set_option maxRecDepth 100000 in
set_option maxHeartbeats 8000000 in
theorem sure_walk (a : Option Addr) (cap : Nat) (ys : List Ac) (keep : Int) (hl : ys.length ≤ maxLen) (w : World) (ho : ∀ y ∈ ys, y.ok w) (h : RowOf Ac.cells w a ys) :
    Calls Try.prog 4 #[.slice a ys.length cap, .int .i64 keep] w fun e w' => e = .returned (.bool true) ∧ Below w.heap.size w w' := by
  have cL := fun w0 => lives_any w0
  have c1 := live_new 1048576 w (by omega) (by omega)
  go_enter Try.func4, Try.ntmps4
  go_wp2_with fail
  refine c1.mono ?_
  rintro e w1 ⟨rfl, hB1, hT1⟩
  clear c1
  have cLi := Light_any a cap ys w1 hl (fun y hy => (ho y hy).below hB1) (h.below hB1)
  go_wp2_with fail
  refine cLi.mono ?_
  clear cLi
  rintro e w2 hLi
  rcases hLi with ⟨rfl, hB2⟩ | ⟨rfl, hB2, hwt⟩
  · have cL := cL w2
    have hBB := hB1.trans (hB2.mono hB1.size)
    go_wp2_with fail
    refine cL.mono ?_
    rintro e w9 ⟨rfl, hb9⟩
    clear cL
    go_wp2_with fail
    go_ret
    exact ⟨rfl, hBB.trans (hb9.mono hBB.size)⟩
  · have hT2 := hT1.below hB2
    have hBB := hB1.trans (hB2.mono hB1.size)
    clear hT1 hB1 hB2
    have hyl := wtA_len ys
    obtain ⟨Y, hYe⟩ : ∃ Y, Hid (w2.heap.size = Y) := ⟨_, hide rfl⟩
    have hYw : w.heap.size ≤ Y := by rw [← hYe.out]; exact hBB.size
    have hr1 := range_new w2 #[.string ⟨#[]⟩, .string ⟨#[]⟩] 35
    have ht1 := there_new w2 #[.string ⟨#[]⟩, .string ⟨#[]⟩] 35
    have hr2 := range_new (w2.alloc (.cells #[.string ⟨#[]⟩, .string ⟨#[]⟩] 35)) #[.string ⟨#[]⟩, .string ⟨#[]⟩] 35
    have ht2 := there_new (w2.alloc (.cells #[.string ⟨#[]⟩, .string ⟨#[]⟩] 35)) #[.string ⟨#[]⟩, .string ⟨#[]⟩] 35
    have hs1 : (w2.alloc (.cells #[.string ⟨#[]⟩, .string ⟨#[]⟩] 35)).heap.size = Y + 1 := by rw [← hYe.out]; simp
    have hb1 : Below w2.heap.size w2 (w2.alloc (.cells #[.string ⟨#[]⟩, .string ⟨#[]⟩] 35)) := (Below.refl _ _).alloc (Nat.le_refl _) _
    have hb2 : Below (Y + 1) (w2.alloc (.cells #[.string ⟨#[]⟩, .string ⟨#[]⟩] 35)) ((w2.alloc (.cells #[.string ⟨#[]⟩, .string ⟨#[]⟩] 35)).alloc (.cells #[.string ⟨#[]⟩, .string ⟨#[]⟩] 35)) := by
      rw [← hs1]; exact (Below.refl _ _).alloc (Nat.le_refl _) _
    rw [hs1] at hr2 ht2
    rw [hYe.out] at hr1 ht1
    have hZ : Arr2 ((w2.alloc (.cells #[.string ⟨#[]⟩, .string ⟨#[]⟩] 35)).alloc (.cells #[.string ⟨#[]⟩, .string ⟨#[]⟩] 35)) Y (Mt.new 1048576) :=
      have e0 := hb2.block Y (by omega)
      ⟨cell_at (hr1 0 _ rfl) e0, cell_at (hr1 1 _ rfl) e0, hr2 0 _ rfl, hr2 1 _ rfl, there_at ht1 e0, ht2⟩
    have hb3 : Below w2.heap.size w2 ((w2.alloc (.cells #[.string ⟨#[]⟩, .string ⟨#[]⟩] 35)).alloc (.cells #[.string ⟨#[]⟩, .string ⟨#[]⟩] 35)) := hb1.trans (hb2.mono (by rw [hYe.out]; omega))
    have hs2 : ((w2.alloc (.cells #[.string ⟨#[]⟩, .string ⟨#[]⟩] 35)).alloc (.cells #[.string ⟨#[]⟩, .string ⟨#[]⟩] 35)).heap.size = Y + 2 := by rw [← hYe.out]; simp
    clear hr1 ht1 hr2 ht2 hb1 hb2 hs1
    go_wp2_with fail
    obtain ⟨w3, hw3⟩ : ∃ w3, (w2.alloc (.cells #[.string ⟨#[]⟩, .string ⟨#[]⟩] 35)).alloc (.cells #[.string ⟨#[]⟩, .string ⟨#[]⟩] 35) = w3 := ⟨_, rfl⟩
    rw [hw3] at hZ hb3 hs2 ⊢
    clear hw3
    obtain ⟨A, hAe⟩ : ∃ A, Hid (More (fun b => b < w.heap.size) w2 w3 = A) := ⟨_, hide rfl⟩
    have hA0 : ∀ b, b < w.heap.size → A b := fun b hb => by rw [← hAe.out]; exact .inl hb
    have hAY : A Y ∧ A (Y + 1) := by
      rw [← hAe.out]
      have e := hYe.out
      exact ⟨.inr ⟨by omega, by omega⟩, .inr ⟨by omega, by omega⟩⟩
    have hA3 : ∀ b, A b → b < w3.heap.size := by
      rw [← hAe.out]
      exact More.lt (fun b hb => Nat.lt_of_lt_of_le hb hBB.size) hb3.size
    have hK3 : Kept15 A w w3 Y 0 (Mt.new 1048576) := ⟨by rw [← hAe.out]; exact hT2.widen hb3, hZ, rfl, rfl, rfl, by simp [Mt.new], hBB.trans (hb3.mono hBB.size)⟩
    have hwi : w2.heap.size = Y := hYe.out
    rw [hwi] at *
    clear hAe hYe hZ hb3 hs2 hT2 hBB hwi
    go_loopw [29] (fun iv wr => ∃ (k : Nat) (M : Mt), k ≤ ys.length ∧ iv = .int .i64 (k : Int) ∧ Kept15 A w wr Y (wtA (ys.take k)) M ∧ (∀ b, A b → b < wr.heap.size)) (fun iv _ => ys.length - (intOf iv).toNat)
    case atStart => exact ⟨0, Mt.new 1048576, by omega, rfl, by simpa [wtA] using hK3, hA3⟩
    case round =>
      clear hK3 hA3
      obtain ⟨k, M, hk, rfl, hK, hAl⟩ := hrel
      obtain ⟨wo, rfl⟩ : ∃ wo, wo = wr := ⟨_, rfl⟩
      by_cases hlt : k < ys.length
      · have hltI : (k : Int) < (ys.length : Int) := by omega
        obtain ⟨rb, off, rfl, hrb, hre0⟩ := h.elem (k := 5) (fun _ _ => rfl) k hlt
        have hyo := ho _ (List.getElem_mem hlt)
        have hre := range_below hre0 hK.bel hrb
        have hyw := wtA_mem (List.getElem_mem hlt)
        have HT := hide (wtA_take ys k hlt)
        have hwk : wtA (ys.take k) + (20 + ys[k].zs.length) ≤ 20000 := by
          have := wtA_take ys k hlt
          have h2 := wtA_le_take ys (k + 1)
          omega
        clear hre0
        obtain ⟨y, hy⟩ : ∃ y, Hid (ys[k] = y) := ⟨_, hide rfl⟩
        rw [hy.out] at hre hyo hyw HT hwk
        clear hy
        obtain ⟨u, hu⟩ : ∃ u, Hid (y.cells = u) := ⟨_, hide rfl⟩
        rw [hu.out] at hre
        have hq2 := two_of y.area
        obtain ⟨q, hq⟩ : ∃ q, wrap64 ((IntKind.u64.wrap y.area).tmod 2) = q := ⟨_, rfl⟩
        rw [hq] at hq2
        have F := fresh_store wo #[.int .i64 0, .int .i64 0, .slice none 0 0, .int .i64 0, .int .i64 0] 31 u (by rw [← hu.out]; rfl)
        have hN : (wo.alloc (.cells #[.int .i64 0, .int .i64 0, .slice none 0 0, .int .i64 0, .int .i64 0] 31)).there wo.heap.size 0 u.toArray.size := by
          have := there_new wo #[.int .i64 0, .int .i64 0, .slice none 0 0, .int .i64 0, .int .i64 0] 31
          have e5 : u.toArray.size = 5 := by rw [← hu.out]; rfl
          rw [e5]; exact this
        have hiq : (Try.prog.info? 31).map (·.size) = some u.length := by rw [← hu.out]; exact iszA
        have hiA : (Try.prog.info? 31).map (·.size) = some u.toArray.size := by rw [← hu.out]; exact iszA
        have h1c : u.toArray.all (·.oneCell') = true := by rw [← hu.out]; exact all_oneCell_toArray (Ac.one y)
        go_upto_region 7 with fail
        try simp only [Act.put]
        refine wp_region_list ?_
        refine wpList_step fun K hK => ?_
        go_simp
        refine hK _ _ ?_
        clear hK K
        refine wpList_load_mid rfl 31 _ rfl _ _ rfl u _ hre Try.underlying31 rfl hiq ?_
        go_upto_region 8 with (refine wpList_store_mid (op := ⟨none, .store 31 (.tmp 9) (.tmp 32), _, _, _, none⟩) rfl 31 _ _ rfl _ _ u.toArray rfl rfl hN hiA h1c ?_)
        go_name_world w3 hw3
        rw [show (wo.alloc (.cells #[.int .i64 0, .int .i64 0, .slice none 0 0, .int .i64 0, .int .i64 0] 31)).setCells wo.heap.size 0 u = w3 from hw3] at F
        clear hw3 hN hiq hiA h1c
        obtain ⟨hR3, hF3, hz3, -⟩ := F
        rw [← hu.out] at hR3
        clear hu hre
        have x0 := (act_cells hR3).1
        have x1 := (act_cells hR3).2.1
        have x2 := (act_cells hR3).2.2.1
        simp only [Nat.zero_add] at x1 x2
        clear hR3
        have hX : wo.heap.size < w3.heap.size := by omega
        have hB3 : Below w.heap.size w w3 := hK.bel.trans (hF3.mono hK.bel.size)
        have hAl3 : ∀ b, A b → b < w3.heap.size := fun b hb => Nat.lt_of_lt_of_le (hAl b hb) hF3.size
        rcases hq2 with rfl | rfl
        · by_cases hk0 : y.kind = 0
          · rw [hk0] at x0
            have cA := live_append (hK.live.widen hF3) (More.lt hAl hF3.size) 0 y.da y.dc y.zs (hyo.r.below hB3) (by
              rcases hyo.r.old with e | e
              · exact .inl e
              · exact .inr (fun x hx => .inl (hA0 _ (e x hx))))
            rw [append_ok (zs := y.zs) hK.on hK.pl (by omega) (by have := hK.room; have := hK.few; omega), show decide ((0 : Int) = 1) = false from rfl] at cA
            clear hk0
            go_wp2_with fail
            refine cA.mono ?_
            rintro e w5 ⟨rfl, hT5, hO5⟩
            clear cA
            have hY5 := (hK.arr.below hF3).at (hO5.2 Y (by have := hK.arr.lt; omega) (fun e => e (.inl hAY.1))) (hO5.2 (Y + 1) (by have := hK.arr.lt; omega) (fun e => e (.inl hAY.2)))
            have hT5' := hT5.narrow (A' := A) (fun b hb => .inl hb)
            have hB5 : Below w.heap.size w w5 := hB3.trans (hO5.below hB3.size (fun b hb e => e (.inl (hA0 b hb))))
            have hAl5 : ∀ b, A b → b < w5.heap.size := fun b hb => by have := hAl b hb; have := hF3.size; have := hO5.size; omega
            have x25 : w5.cell? ⟨wo.heap.size, 2, none⟩ = some (.slice y.da y.zs.length y.dc) := cell_at x2 (hO5.2 _ hX (fun e => e (.inr ⟨by omega, by omega⟩)))
            have hD : Below w5.heap.size w5 w5.drew := (Below.refl _ _).drew
            have kc : (convert 29 9 (.slice y.da y.zs.length y.dc)).run Try.prog w5.drew = .ok (.string (strOf y.zs)) w5.drew := row_str ((hyo.r.below hB5).below hD)
            have ya := hY5.a0
            have fa := hY5.fz.1
            have ka : (strOf M.a).size + (strOf y.zs).size ≤ 9223372036854775807 := by rw [strOf_size, strOf_size]; have := hK.few; omega
            have HK : Hid (Kept15 A w (w5.drew.setCell ⟨Y, 0, none⟩ (.string (strOf M.a ++ strOf y.zs))) Y (wtA (ys.take (k + 1))) (Mt.put y.zs false M.count)) := hide (by
              have hS : Off (fun b => b = Y) w5.drew (w5.drew.setCell ⟨Y, 0, none⟩ (.string (strOf M.a ++ strOf y.zs))) := Off.of_setCell (F := fun b => b = Y) _ _ _ rfl
              refine ⟨(hT5'.below hD).off hS (fun b e => by rw [e]; exact hAY.1), Arr2.put (hY5.below hD) hK.live.ok false y.zs, hK.on, hK.pl, hK.room, ?_, (hB5.trans (hD.mono hB5.size)).trans (hS.below (by have := hB5.size; exact this) (fun b hb e => by have := hYw; omega))⟩
              rw [put_few]
              have := hK.few
              have := HT.out
              show M.a.length + M.b.length + y.zs.length ≤ _
              omega)
            have hsz : w3.heap.size ≤ w5.heap.size := hO5.size
            clear hT5 hT5' hY5 hK hO5 hyo x1 x2 hF3 hB3 hB5 hAl hD
            go_wp2_with fail
            go_region
            all_goals
              go_wp2_with fail
              go_roundw
              case rel => exact ⟨k + 1, _, by omega, by go_num, HK.out, fun b hb => by have := hAl5 b hb; simpa using this⟩
              case measure => simp [intOf]; omega
          · by_cases hk1 : y.kind = 1
            · rw [hk1] at x0
              have cA := live_sync (hK.live.below hF3) hAl3 0
              unfold Mt.sync at cA
              rw [does_ok _ hK.on hK.pl (by omega), show decide ((0 : Int) = 1) = false from rfl] at cA
              clear hk0 hk1
              go_wp2_with fail
              refine cA.mono ?_
              rintro e w5 ⟨rfl, hT5, hO5⟩
              clear cA
              have hY5 := (hK.arr.below hF3).at (hO5.2 Y (by have := hK.arr.lt; omega) (fun e => e hAY.1)) (hO5.2 (Y + 1) (by have := hK.arr.lt; omega) (fun e => e hAY.2))
              have hB5 : Below w.heap.size w w5 := hB3.trans (hO5.below hB3.size (fun b hb e => e (hA0 b hb)))
              have hAl5 : ∀ b, A b → b < w5.heap.size := fun b hb => by have := hAl3 b hb; have := hO5.size; omega
              have ya := hY5.a0
              have ys0 := hY5.s0
              have fa := hY5.fz.2.2.1
              have HK : Hid (Kept15 A w (w5.setCell ⟨Y + 1, 0, none⟩ (.string (strOf M.a))) Y (wtA (ys.take (k + 1))) (M.count.settle false)) := hide (by
                have hS : Off (fun b => b = Y + 1) w5 (w5.setCell ⟨Y + 1, 0, none⟩ (.string (strOf M.a))) := Off.of_setCell (F := fun b => b = Y + 1) _ _ _ rfl
                refine ⟨hT5.off hS (fun b e => by rw [e]; exact hAY.2), Arr2.settle hY5 false, hK.on, hK.pl, hK.room, ?_, hB5.trans (hS.below hB5.size (fun b hb e => by have := hYw; omega))⟩
                have := hK.few
                have := HT.out
                show M.a.length + M.b.length ≤ _
                omega)
              clear hT5 hY5 hK hO5 hyo x1 x2 hF3 hB3 hB5 hAl hAl3
              go_wp2_with fail
              go_roundw
              case rel => exact ⟨k + 1, _, by omega, by go_num, HK.out, fun b hb => by have := hAl5 b hb; simpa using this⟩
              case measure => simp [intOf]; omega
            · by_cases hk2 : y.kind = 2
              · rw [hk2] at x0
                have cA := live_clear (hK.live.below hF3) hAl3 0
                unfold Mt.empty at cA
                rw [does_ok _ hK.on hK.pl (by omega), show decide ((0 : Int) = 1) = false from rfl] at cA
                clear hk0 hk1 hk2
                go_wp2_with fail
                refine cA.mono ?_
                rintro e w5 ⟨rfl, hT5, hO5⟩
                clear cA
                have hY5 := (hK.arr.below hF3).at (hO5.2 Y (by have := hK.arr.lt; omega) (fun e => e hAY.1)) (hO5.2 (Y + 1) (by have := hK.arr.lt; omega) (fun e => e hAY.2))
                have hB5 : Below w.heap.size w w5 := hB3.trans (hO5.below hB3.size (fun b hb e => e (hA0 b hb)))
                have hAl5 : ∀ b, A b → b < w5.heap.size := fun b hb => by have := hAl3 b hb; have := hO5.size; omega
                have ya := hY5.a0
                have ys0 := hY5.s0
                have fa := hY5.fz.1
                have fs := hY5.fz.2.2.1
                have HK : Hid (Kept15 A w ((w5.setCell ⟨Y, 0, none⟩ (.string ⟨#[]⟩)).setCell ⟨Y + 1, 0, none⟩ (.string ⟨#[]⟩)) Y (wtA (ys.take (k + 1))) (M.count.clear false)) := hide (by
                  have hS1 : Off (fun b => b = Y ∨ b = Y + 1) w5 (w5.setCell ⟨Y, 0, none⟩ (.string ⟨#[]⟩)) := Off.of_setCell (F := fun b => b = Y ∨ b = Y + 1) _ _ _ (.inl rfl)
                  have hS : Off (fun b => b = Y ∨ b = Y + 1) w5 ((w5.setCell ⟨Y, 0, none⟩ (.string ⟨#[]⟩)).setCell ⟨Y + 1, 0, none⟩ (.string ⟨#[]⟩)) := hS1.trans (Off.of_setCell (F := fun b => b = Y ∨ b = Y + 1) _ _ _ (.inr rfl)) (fun _ _ e => e)
                  refine ⟨hT5.off hS (fun b e => by rcases e with e | e; rw [e]; exact hAY.1; rw [e]; exact hAY.2), Arr2.clear hY5 false, hK.on, hK.pl, hK.room, ?_, hB5.trans (hS.below hB5.size (fun b hb e => by have := hYw; omega))⟩
                  have := hK.few
                  have := HT.out
                  have := clear_few false M.count
                  have e1 : M.count.a = M.a := rfl
                  have e2 : M.count.b = M.b := rfl
                  rw [e1, e2] at this
                  omega)
                clear hT5 hY5 hK hO5 hyo x1 x2 hF3 hB3 hB5 hAl hAl3
                go_wp2_with fail
                go_roundw
                case rel => exact ⟨k + 1, _, by omega, by go_num, HK.out, fun b hb => by have := hAl5 b hb; simpa using this⟩
                case measure => simp [intOf]; omega
              · have h0 : (y.kind == 0) = false := by simpa using hk0
                have h1 : (y.kind == 1) = false := by simpa using hk1
                have h2 : (y.kind == 2) = false := by simpa using hk2
                have HK : Hid (Kept15 A w w3 Y (wtA (ys.take (k + 1))) M) := hide ⟨hK.live.below hF3, hK.arr.below hF3, hK.on, hK.pl, hK.room, by have := hK.few; have := HT.out; omega, hB3⟩
                clear hk0 hk1 hk2 hK hyo hF3 hB3 hAl
                go_wp2_with fail
                go_roundw
                case rel => exact ⟨k + 1, _, by omega, by go_num, HK.out, hAl3⟩
                case measure => simp [intOf]; omega
        · by_cases hk0 : y.kind = 0
          · rw [hk0] at x0
            have cA := live_append (hK.live.widen hF3) (More.lt hAl hF3.size) 1 y.da y.dc y.zs (hyo.r.below hB3) (by
              rcases hyo.r.old with e | e
              · exact .inl e
              · exact .inr (fun x hx => .inl (hA0 _ (e x hx))))
            rw [append_ok (zs := y.zs) hK.on hK.pl (by omega) (by have := hK.room; have := hK.few; omega), show decide ((1 : Int) = 1) = true from rfl] at cA
            clear hk0
            go_wp2_with fail
            refine cA.mono ?_
            rintro e w5 ⟨rfl, hT5, hO5⟩
            clear cA
            have hY5 := (hK.arr.below hF3).at (hO5.2 Y (by have := hK.arr.lt; omega) (fun e => e (.inl hAY.1))) (hO5.2 (Y + 1) (by have := hK.arr.lt; omega) (fun e => e (.inl hAY.2)))
            have hT5' := hT5.narrow (A' := A) (fun b hb => .inl hb)
            have hB5 : Below w.heap.size w w5 := hB3.trans (hO5.below hB3.size (fun b hb e => e (.inl (hA0 b hb))))
            have hAl5 : ∀ b, A b → b < w5.heap.size := fun b hb => by have := hAl b hb; have := hF3.size; have := hO5.size; omega
            have x25 : w5.cell? ⟨wo.heap.size, 2, none⟩ = some (.slice y.da y.zs.length y.dc) := cell_at x2 (hO5.2 _ hX (fun e => e (.inr ⟨by omega, by omega⟩)))
            have hD : Below w5.heap.size w5 w5.drew := (Below.refl _ _).drew
            have kc : (convert 29 9 (.slice y.da y.zs.length y.dc)).run Try.prog w5.drew = .ok (.string (strOf y.zs)) w5.drew := row_str ((hyo.r.below hB5).below hD)
            have ya := hY5.a1
            have fa := hY5.fz.2.1
            have ka : (strOf M.b).size + (strOf y.zs).size ≤ 9223372036854775807 := by rw [strOf_size, strOf_size]; have := hK.few; omega
            have HK : Hid (Kept15 A w (w5.drew.setCell ⟨Y, 1, none⟩ (.string (strOf M.b ++ strOf y.zs))) Y (wtA (ys.take (k + 1))) (Mt.put y.zs true M.count)) := hide (by
              have hS : Off (fun b => b = Y) w5.drew (w5.drew.setCell ⟨Y, 1, none⟩ (.string (strOf M.b ++ strOf y.zs))) := Off.of_setCell (F := fun b => b = Y) _ _ _ rfl
              refine ⟨(hT5'.below hD).off hS (fun b e => by rw [e]; exact hAY.1), Arr2.put (hY5.below hD) hK.live.ok true y.zs, hK.on, hK.pl, hK.room, ?_, (hB5.trans (hD.mono hB5.size)).trans (hS.below (by have := hB5.size; exact this) (fun b hb e => by have := hYw; omega))⟩
              rw [put_few]
              have := hK.few
              have := HT.out
              show M.a.length + M.b.length + y.zs.length ≤ _
              omega)
            have hsz : w3.heap.size ≤ w5.heap.size := hO5.size
            clear hT5 hT5' hY5 hK hO5 hyo x1 x2 hF3 hB3 hB5 hAl hD
            go_wp2_with fail
            go_region
            all_goals
              go_wp2_with fail
              go_roundw
              case rel => exact ⟨k + 1, _, by omega, by go_num, HK.out, fun b hb => by have := hAl5 b hb; simpa using this⟩
              case measure => simp [intOf]; omega
          · by_cases hk1 : y.kind = 1
            · rw [hk1] at x0
              have cA := live_sync (hK.live.below hF3) hAl3 1
              unfold Mt.sync at cA
              rw [does_ok _ hK.on hK.pl (by omega), show decide ((1 : Int) = 1) = true from rfl] at cA
              clear hk0 hk1
              go_wp2_with fail
              refine cA.mono ?_
              rintro e w5 ⟨rfl, hT5, hO5⟩
              clear cA
              have hY5 := (hK.arr.below hF3).at (hO5.2 Y (by have := hK.arr.lt; omega) (fun e => e hAY.1)) (hO5.2 (Y + 1) (by have := hK.arr.lt; omega) (fun e => e hAY.2))
              have hB5 : Below w.heap.size w w5 := hB3.trans (hO5.below hB3.size (fun b hb e => e (hA0 b hb)))
              have hAl5 : ∀ b, A b → b < w5.heap.size := fun b hb => by have := hAl3 b hb; have := hO5.size; omega
              have ya := hY5.a1
              have ys0 := hY5.s1
              have fa := hY5.fz.2.2.2
              have HK : Hid (Kept15 A w (w5.setCell ⟨Y + 1, 1, none⟩ (.string (strOf M.b))) Y (wtA (ys.take (k + 1))) (M.count.settle true)) := hide (by
                have hS : Off (fun b => b = Y + 1) w5 (w5.setCell ⟨Y + 1, 1, none⟩ (.string (strOf M.b))) := Off.of_setCell (F := fun b => b = Y + 1) _ _ _ rfl
                refine ⟨hT5.off hS (fun b e => by rw [e]; exact hAY.2), Arr2.settle hY5 true, hK.on, hK.pl, hK.room, ?_, hB5.trans (hS.below hB5.size (fun b hb e => by have := hYw; omega))⟩
                have := hK.few
                have := HT.out
                show M.a.length + M.b.length ≤ _
                omega)
              clear hT5 hY5 hK hO5 hyo x1 x2 hF3 hB3 hB5 hAl hAl3
              go_wp2_with fail
              go_roundw
              case rel => exact ⟨k + 1, _, by omega, by go_num, HK.out, fun b hb => by have := hAl5 b hb; simpa using this⟩
              case measure => simp [intOf]; omega
            · by_cases hk2 : y.kind = 2
              · rw [hk2] at x0
                have cA := live_clear (hK.live.below hF3) hAl3 1
                unfold Mt.empty at cA
                rw [does_ok _ hK.on hK.pl (by omega), show decide ((1 : Int) = 1) = true from rfl] at cA
                clear hk0 hk1 hk2
                go_wp2_with fail
                refine cA.mono ?_
                rintro e w5 ⟨rfl, hT5, hO5⟩
                clear cA
                have hY5 := (hK.arr.below hF3).at (hO5.2 Y (by have := hK.arr.lt; omega) (fun e => e hAY.1)) (hO5.2 (Y + 1) (by have := hK.arr.lt; omega) (fun e => e hAY.2))
                have hB5 : Below w.heap.size w w5 := hB3.trans (hO5.below hB3.size (fun b hb e => e (hA0 b hb)))
                have hAl5 : ∀ b, A b → b < w5.heap.size := fun b hb => by have := hAl3 b hb; have := hO5.size; omega
                have ya := hY5.a1
                have ys0 := hY5.s1
                have fa := hY5.fz.2.1
                have fs := hY5.fz.2.2.2
                have HK : Hid (Kept15 A w ((w5.setCell ⟨Y, 1, none⟩ (.string ⟨#[]⟩)).setCell ⟨Y + 1, 1, none⟩ (.string ⟨#[]⟩)) Y (wtA (ys.take (k + 1))) (M.count.clear true)) := hide (by
                  have hS1 : Off (fun b => b = Y ∨ b = Y + 1) w5 (w5.setCell ⟨Y, 1, none⟩ (.string ⟨#[]⟩)) := Off.of_setCell (F := fun b => b = Y ∨ b = Y + 1) _ _ _ (.inl rfl)
                  have hS : Off (fun b => b = Y ∨ b = Y + 1) w5 ((w5.setCell ⟨Y, 1, none⟩ (.string ⟨#[]⟩)).setCell ⟨Y + 1, 1, none⟩ (.string ⟨#[]⟩)) := hS1.trans (Off.of_setCell (F := fun b => b = Y ∨ b = Y + 1) _ _ _ (.inr rfl)) (fun _ _ e => e)
                  refine ⟨hT5.off hS (fun b e => by rcases e with e | e; rw [e]; exact hAY.1; rw [e]; exact hAY.2), Arr2.clear hY5 true, hK.on, hK.pl, hK.room, ?_, hB5.trans (hS.below hB5.size (fun b hb e => by have := hYw; omega))⟩
                  have := hK.few
                  have := HT.out
                  have := clear_few true M.count
                  have e1 : M.count.a = M.a := rfl
                  have e2 : M.count.b = M.b := rfl
                  rw [e1, e2] at this
                  omega)
                clear hT5 hY5 hK hO5 hyo x1 x2 hF3 hB3 hB5 hAl hAl3
                go_wp2_with fail
                go_roundw
                case rel => exact ⟨k + 1, _, by omega, by go_num, HK.out, fun b hb => by have := hAl5 b hb; simpa using this⟩
                case measure => simp [intOf]; omega
              · have h0 : (y.kind == 0) = false := by simpa using hk0
                have h1 : (y.kind == 1) = false := by simpa using hk1
                have h2 : (y.kind == 2) = false := by simpa using hk2
                have HK : Hid (Kept15 A w w3 Y (wtA (ys.take (k + 1))) M) := hide ⟨hK.live.below hF3, hK.arr.below hF3, hK.on, hK.pl, hK.room, by have := hK.few; have := HT.out; omega, hB3⟩
                clear hk0 hk1 hk2 hK hyo hF3 hB3 hAl
                go_wp2_with fail
                go_roundw
                case rel => exact ⟨k + 1, _, by omega, by go_num, HK.out, hAl3⟩
                case measure => simp [intOf]; omega
      · have k1 : ¬ (k : Int) < (ys.length : Int) := by omega
        have cF := live_fail hK.live hAl keep
        have hfl : M.fail keep = (0, M.lose keep) := by unfold Mt.fail; rw [if_pos hK.on]
        rw [hfl] at cF
        clear hfl
        go_wp2_with fail
        refine cF.mono ?_
        rintro e w4 ⟨rfl, hT4, hO4⟩
        clear cF
        have hAl4 : ∀ b, A b → b < w4.heap.size := fun b hb => Nat.lt_of_lt_of_le (hAl b hb) hO4.size
        have cPw := live_power hT4 hAl4
        have hY4 := hK.arr.at (hO4.2 Y (by have := hK.arr.lt; omega) (fun e => e hAY.1)) (hO4.2 (Y + 1) (by have := hK.arr.lt; omega) (fun e => e hAY.2))
        have hB4 : Below w.heap.size w w4 := hK.bel.trans (hO4.below hK.bel.size (fun b hb e => e (hA0 b hb)))
        clear hT4 hO4
        go_wp2_with fail
        refine cPw.mono ?_
        rintro e w5 ⟨rfl, hT5, hO5⟩
        clear cPw
        have hY5 := hY4.at (hO5.2 Y (by have := hY4.lt; omega) (fun e => e hAY.1)) (hO5.2 (Y + 1) (by have := hY4.lt; omega) (fun e => e hAY.2))
        have hB5 : Below w.heap.size w w5 := hB4.trans (hO5.below hB4.size (fun b hb e => e (hA0 b hb)))
        have hok := hK.live.ok
        obtain ⟨M2, hM2⟩ : ∃ M2, Hid (M2 = { M.lose keep with on := true }) := ⟨_, hide rfl⟩
        have hon2 : M2.on = true := by rw [hM2.out]
        rw [← hM2.out] at hT5
        clear hK hAl hY4 hB4 hO5 hAl4 k1
        go_wp2_with fail
        go_loopw [87] (fun iv wr => ∃ j : Nat, j ≤ 2 ∧ iv = .int .i64 (j : Int) ∧ Live A wr w.heap.size M2 ∧ Arr2 wr Y M ∧ Below w.heap.size w wr) (fun iv _ => 2 - (intOf iv).toNat)
        case atStart => exact ⟨0, by omega, rfl, hT5, hY5, hB5⟩
        case round =>
          clear hT5 hY5 hB5 hk
          obtain ⟨j, hj, rfl, hT, hY, hB⟩ := hrel
          obtain ⟨wo, rfl⟩ : ∃ wo, wo = wr := ⟨_, rfl⟩
          have hj3 : j = 0 ∨ j = 1 ∨ j = 2 := by omega
          clear hj
          rcases hj3 with rfl | rfl | rfl
          · have cR := live_read hT 0
            have hfq : M2.fault 0 = 0 := fault_on hon2 (by omega)
            have hrd : M2.read 0 = M.a.take (keptN keep M.a.length M.sa) := by
              unfold Mt.read
              rw [if_pos hfq, hM2.out]
              rfl
            rw [hfq, hrd] at cR
            have hsl : M.sa ≤ M.a.length := hok.sa
            have hkg := keptN_ge keep M.a.length M.sa
            have cP2 := fun w0 => hasPrefix_of M.a (keptN keep M.a.length M.sa) w0
            have cP1 := fun w0 => hasPrefix_of (M.a.take (keptN keep M.a.length M.sa)) M.sa w0
            rw [List.take_take, Nat.min_eq_left hkg] at cP1
            obtain ⟨zr, hzr⟩ : ∃ zr, Hid (M.a.take (keptN keep M.a.length M.sa) = zr) := ⟨_, hide rfl⟩
            simp only [hzr.out] at cR cP1 cP2
            clear hfq hrd hzr hsl hkg
            go_wp2_with fail
            refine cR.mono ?_
            rintro e w4 ⟨ra, rcap, rfl, hRr, hB4, -⟩
            clear cR
            go_wp2_with fail
            obtain ⟨w8, hw8⟩ : ∃ w8, w4.drew = w8 := ⟨_, rfl⟩
            have hD : Below w4.heap.size w4 w8 := by rw [← hw8]; exact (Below.refl _ _).drew
            have hB48 := hB4.trans (hD.mono hB4.size)
            have kr := row_str (cap := rcap) (hRr.below hD)
            have hY8 := hY.below hB48
            have xa := hY8.a0
            have xs := hY8.s0
            have HR := hide (And.intro (hT.below hB48) (And.intro hY8 (hB.trans (hB48.mono hB.size))))
            clear hT hY hB hRr hB4 hD hB48 hY8
            refine hs_begin (S := (fun w' : World => w' = w8)) 20 rfl (by kernel_rfl) ?_
            rw [hw8]
            clear hw8
            have hS : (fun w' : World => w' = w8) w8 := rfl
            refine hs_take (i := 0) (d := some 96) (v := ?_) rfl (by kernel_rfl) (by kernel_rfl) (by kernel_rfl) (by rfl) ?_ hS rfl ?_
            rotate_left
            · intro w' hw
              go_simp
              try with_reducible rfl
            simp only [Act.put, List.setIfInBounds_toArray, List.set_cons_zero, List.set_cons_succ]
            refine hs_take (i := 1) (d := some 97) (v := .bool false) rfl (by kernel_rfl) (by kernel_rfl) (by kernel_rfl) (by rfl) (fun w' hw => by go_simp) hS rfl ?_
            simp only [Act.put, List.setIfInBounds_toArray, List.set_cons_zero, List.set_cons_succ]
            refine hs_take (i := 2) (d := some 98) (v := .bool false) rfl (by kernel_rfl) (by kernel_rfl) (by kernel_rfl) (by rfl) (fun w' hw => by go_simp) hS rfl ?_
            simp only [Act.put, List.setIfInBounds_toArray, List.set_cons_zero, List.set_cons_succ]
            refine hs_take (i := 3) (d := some 99) (v := ?_) rfl (by kernel_rfl) (by kernel_rfl) (by kernel_rfl) (by rfl) ?_ hS rfl ?_
            rotate_left
            · intro w' hw
              go_simp
              try with_reducible rfl
            simp only [Act.put, List.setIfInBounds_toArray, List.set_cons_zero, List.set_cons_succ]
            refine hs_take (i := 4) (d := some 100) (v := ?_) rfl (by kernel_rfl) (by kernel_rfl) (by kernel_rfl) (by rfl) ?_ hS rfl ?_
            rotate_left
            · intro w' hw
              obtain rfl : w8 = w' := hw.symm; have hc := kr
              go_simp
              try with_reducible rfl
            simp only [Act.put, List.setIfInBounds_toArray, List.set_cons_zero, List.set_cons_succ]
            refine hs_take (i := 5) (d := some 101) (v := ?_) rfl (by kernel_rfl) (by kernel_rfl) (by kernel_rfl) (by rfl) ?_ hS rfl ?_
            rotate_left
            · intro w' hw
              go_simp
              try with_reducible rfl
            simp only [Act.put, List.setIfInBounds_toArray, List.set_cons_zero, List.set_cons_succ]
            refine hs_take (i := 6) (d := some 102) (v := ?_) rfl (by kernel_rfl) (by kernel_rfl) (by kernel_rfl) (by rfl) ?_ hS rfl ?_
            rotate_left
            · intro w' hw
              go_simp
              try with_reducible rfl
            simp only [Act.put, List.setIfInBounds_toArray, List.set_cons_zero, List.set_cons_succ]
            refine hs_take (i := 7) (d := some 103) (v := ?_) rfl (by kernel_rfl) (by kernel_rfl) (by kernel_rfl) (by rfl) ?_ hS rfl ?_
            rotate_left
            · intro w' hw
              obtain rfl : w8 = w' := hw.symm; have hc := xs
              go_simp
              try with_reducible rfl
            simp only [Act.put, List.setIfInBounds_toArray, List.set_cons_zero, List.set_cons_succ]
            refine hs_call (i := 8) (d := some 104) rfl (by kernel_rfl) (by rfl) (by go_simp; first | done | exact ⟨rfl, rfl⟩ | with_reducible rfl) rfl ?_
            refine (cP1 w8).mono ?_
            rintro e' w9 ⟨rfl, hx⟩
            obtain rfl := hx.symm
            clear hx
            refine ⟨_, rfl, rfl, ?_⟩
            simp only [Act.put, List.setIfInBounds_toArray, List.set_cons_zero, List.set_cons_succ]
            refine hs_take (i := 9) (d := some 105) (v := .bool false) rfl (by kernel_rfl) (by kernel_rfl) (by kernel_rfl) (by rfl) (fun w' hw => by go_simp) hS rfl ?_
            simp only [Act.put, List.setIfInBounds_toArray, List.set_cons_zero, List.set_cons_succ]
            refine hs_take (i := 10) (d := some 106) (v := .bool false) rfl (by kernel_rfl) (by kernel_rfl) (by kernel_rfl) (by rfl) (fun w' hw => by go_simp) hS rfl ?_
            simp only [Act.put, List.setIfInBounds_toArray, List.set_cons_zero, List.set_cons_succ]
            refine hs_take (i := 11) (d := some 107) (v := .bool false) rfl (by kernel_rfl) (by kernel_rfl) (by kernel_rfl) (by rfl) (fun w' hw => by go_simp) hS rfl ?_
            simp only [Act.put, List.setIfInBounds_toArray, List.set_cons_zero, List.set_cons_succ]
            refine hs_take (i := 12) (d := some 108) (v := ?_) rfl (by kernel_rfl) (by kernel_rfl) (by kernel_rfl) (by rfl) ?_ hS rfl ?_
            rotate_left
            · intro w' hw
              go_simp
              try with_reducible rfl
            simp only [Act.put, List.setIfInBounds_toArray, List.set_cons_zero, List.set_cons_succ]
            refine hs_take (i := 13) (d := some 109) (v := ?_) rfl (by kernel_rfl) (by kernel_rfl) (by kernel_rfl) (by rfl) ?_ hS rfl ?_
            rotate_left
            · intro w' hw
              go_simp
              try with_reducible rfl
            simp only [Act.put, List.setIfInBounds_toArray, List.set_cons_zero, List.set_cons_succ]
            refine hs_take (i := 14) (d := some 110) (v := ?_) rfl (by kernel_rfl) (by kernel_rfl) (by kernel_rfl) (by rfl) ?_ hS rfl ?_
            rotate_left
            · intro w' hw
              obtain rfl : w8 = w' := hw.symm; have hc := xa
              go_simp
              try with_reducible rfl
            simp only [Act.put, List.setIfInBounds_toArray, List.set_cons_zero, List.set_cons_succ]
            refine hs_take (i := 15) (d := some 111) (v := ?_) rfl (by kernel_rfl) (by kernel_rfl) (by kernel_rfl) (by rfl) ?_ hS rfl ?_
            rotate_left
            · intro w' hw
              go_simp
              try with_reducible rfl
            simp only [Act.put, List.setIfInBounds_toArray, List.set_cons_zero, List.set_cons_succ]
            refine hs_take (i := 16) (d := some 112) (v := ?_) rfl (by kernel_rfl) (by kernel_rfl) (by kernel_rfl) (by rfl) ?_ hS rfl ?_
            rotate_left
            · intro w' hw
              obtain rfl : w8 = w' := hw.symm; have hc := kr
              go_simp
              try with_reducible rfl
            simp only [Act.put, List.setIfInBounds_toArray, List.set_cons_zero, List.set_cons_succ]
            refine hs_call (i := 17) (d := some 113) rfl (by kernel_rfl) (by rfl) (by go_simp; first | done | exact ⟨rfl, rfl⟩ | with_reducible rfl) rfl ?_
            refine (cP2 w8).mono ?_
            rintro e' w9 ⟨rfl, hx⟩
            obtain rfl := hx.symm
            clear hx
            refine ⟨_, rfl, rfl, ?_⟩
            simp only [Act.put, List.setIfInBounds_toArray, List.set_cons_zero, List.set_cons_succ]
            refine hs_take (i := 18) (d := some 114) (v := .bool false) rfl (by kernel_rfl) (by kernel_rfl) (by kernel_rfl) (by rfl) (fun w' hw => by go_simp) hS rfl ?_
            simp only [Act.put, List.setIfInBounds_toArray, List.set_cons_zero, List.set_cons_succ]
            refine hs_take (i := 19) (d := some 115) (v := .bool false) rfl (by kernel_rfl) (by kernel_rfl) (by kernel_rfl) (by rfl) (fun w' hw => by go_simp) hS rfl ?_
            simp only [Act.put, List.setIfInBounds_toArray, List.set_cons_zero, List.set_cons_succ]
            refine hs_done (by kernel_rfl) ?_
            clear kr cP1 cP2 hS
            go_wp2_with fail
            go_roundw
            case rel => exact ⟨1, by omega, rfl, HR.out.1, HR.out.2.1, HR.out.2.2⟩
            case measure => simp [intOf]
          · have cR := live_read hT 1
            have hfq : M2.fault 1 = 0 := fault_on hon2 (by omega)
            have hrd : M2.read 1 = M.b.take (keptN keep M.b.length M.sb) := by
              unfold Mt.read
              rw [if_pos hfq, hM2.out]
              rfl
            rw [hfq, hrd] at cR
            have hsl : M.sb ≤ M.b.length := hok.sb
            have hkg := keptN_ge keep M.b.length M.sb
            have cP2 := fun w0 => hasPrefix_of M.b (keptN keep M.b.length M.sb) w0
            have cP1 := fun w0 => hasPrefix_of (M.b.take (keptN keep M.b.length M.sb)) M.sb w0
            rw [List.take_take, Nat.min_eq_left hkg] at cP1
            obtain ⟨zr, hzr⟩ : ∃ zr, Hid (M.b.take (keptN keep M.b.length M.sb) = zr) := ⟨_, hide rfl⟩
            simp only [hzr.out] at cR cP1 cP2
            clear hfq hrd hzr hsl hkg
            go_wp2_with fail
            refine cR.mono ?_
            rintro e w4 ⟨ra, rcap, rfl, hRr, hB4, -⟩
            clear cR
            go_wp2_with fail
            obtain ⟨w8, hw8⟩ : ∃ w8, w4.drew = w8 := ⟨_, rfl⟩
            have hD : Below w4.heap.size w4 w8 := by rw [← hw8]; exact (Below.refl _ _).drew
            have hB48 := hB4.trans (hD.mono hB4.size)
            have kr := row_str (cap := rcap) (hRr.below hD)
            have hY8 := hY.below hB48
            have xa := hY8.a1
            have xs := hY8.s1
            have HR := hide (And.intro (hT.below hB48) (And.intro hY8 (hB.trans (hB48.mono hB.size))))
            clear hT hY hB hRr hB4 hD hB48 hY8
            refine hs_begin (S := (fun w' : World => w' = w8)) 20 rfl (by kernel_rfl) ?_
            rw [hw8]
            clear hw8
            have hS : (fun w' : World => w' = w8) w8 := rfl
            refine hs_take (i := 0) (d := some 96) (v := ?_) rfl (by kernel_rfl) (by kernel_rfl) (by kernel_rfl) (by rfl) ?_ hS rfl ?_
            rotate_left
            · intro w' hw
              go_simp
              try with_reducible rfl
            simp only [Act.put, List.setIfInBounds_toArray, List.set_cons_zero, List.set_cons_succ]
            refine hs_take (i := 1) (d := some 97) (v := .bool false) rfl (by kernel_rfl) (by kernel_rfl) (by kernel_rfl) (by rfl) (fun w' hw => by go_simp) hS rfl ?_
            simp only [Act.put, List.setIfInBounds_toArray, List.set_cons_zero, List.set_cons_succ]
            refine hs_take (i := 2) (d := some 98) (v := .bool false) rfl (by kernel_rfl) (by kernel_rfl) (by kernel_rfl) (by rfl) (fun w' hw => by go_simp) hS rfl ?_
            simp only [Act.put, List.setIfInBounds_toArray, List.set_cons_zero, List.set_cons_succ]
            refine hs_take (i := 3) (d := some 99) (v := ?_) rfl (by kernel_rfl) (by kernel_rfl) (by kernel_rfl) (by rfl) ?_ hS rfl ?_
            rotate_left
            · intro w' hw
              go_simp
              try with_reducible rfl
            simp only [Act.put, List.setIfInBounds_toArray, List.set_cons_zero, List.set_cons_succ]
            refine hs_take (i := 4) (d := some 100) (v := ?_) rfl (by kernel_rfl) (by kernel_rfl) (by kernel_rfl) (by rfl) ?_ hS rfl ?_
            rotate_left
            · intro w' hw
              obtain rfl : w8 = w' := hw.symm; have hc := kr
              go_simp
              try with_reducible rfl
            simp only [Act.put, List.setIfInBounds_toArray, List.set_cons_zero, List.set_cons_succ]
            refine hs_take (i := 5) (d := some 101) (v := ?_) rfl (by kernel_rfl) (by kernel_rfl) (by kernel_rfl) (by rfl) ?_ hS rfl ?_
            rotate_left
            · intro w' hw
              go_simp
              try with_reducible rfl
            simp only [Act.put, List.setIfInBounds_toArray, List.set_cons_zero, List.set_cons_succ]
            refine hs_take (i := 6) (d := some 102) (v := ?_) rfl (by kernel_rfl) (by kernel_rfl) (by kernel_rfl) (by rfl) ?_ hS rfl ?_
            rotate_left
            · intro w' hw
              go_simp
              try with_reducible rfl
            simp only [Act.put, List.setIfInBounds_toArray, List.set_cons_zero, List.set_cons_succ]
            refine hs_take (i := 7) (d := some 103) (v := ?_) rfl (by kernel_rfl) (by kernel_rfl) (by kernel_rfl) (by rfl) ?_ hS rfl ?_
            rotate_left
            · intro w' hw
              obtain rfl : w8 = w' := hw.symm; have hc := xs
              go_simp
              try with_reducible rfl
            simp only [Act.put, List.setIfInBounds_toArray, List.set_cons_zero, List.set_cons_succ]
            refine hs_call (i := 8) (d := some 104) rfl (by kernel_rfl) (by rfl) (by go_simp; first | done | exact ⟨rfl, rfl⟩ | with_reducible rfl) rfl ?_
            refine (cP1 w8).mono ?_
            rintro e' w9 ⟨rfl, hx⟩
            obtain rfl := hx.symm
            clear hx
            refine ⟨_, rfl, rfl, ?_⟩
            simp only [Act.put, List.setIfInBounds_toArray, List.set_cons_zero, List.set_cons_succ]
            refine hs_take (i := 9) (d := some 105) (v := .bool false) rfl (by kernel_rfl) (by kernel_rfl) (by kernel_rfl) (by rfl) (fun w' hw => by go_simp) hS rfl ?_
            simp only [Act.put, List.setIfInBounds_toArray, List.set_cons_zero, List.set_cons_succ]
            refine hs_take (i := 10) (d := some 106) (v := .bool false) rfl (by kernel_rfl) (by kernel_rfl) (by kernel_rfl) (by rfl) (fun w' hw => by go_simp) hS rfl ?_
            simp only [Act.put, List.setIfInBounds_toArray, List.set_cons_zero, List.set_cons_succ]
            refine hs_take (i := 11) (d := some 107) (v := .bool false) rfl (by kernel_rfl) (by kernel_rfl) (by kernel_rfl) (by rfl) (fun w' hw => by go_simp) hS rfl ?_
            simp only [Act.put, List.setIfInBounds_toArray, List.set_cons_zero, List.set_cons_succ]
            refine hs_take (i := 12) (d := some 108) (v := ?_) rfl (by kernel_rfl) (by kernel_rfl) (by kernel_rfl) (by rfl) ?_ hS rfl ?_
            rotate_left
            · intro w' hw
              go_simp
              try with_reducible rfl
            simp only [Act.put, List.setIfInBounds_toArray, List.set_cons_zero, List.set_cons_succ]
            refine hs_take (i := 13) (d := some 109) (v := ?_) rfl (by kernel_rfl) (by kernel_rfl) (by kernel_rfl) (by rfl) ?_ hS rfl ?_
            rotate_left
            · intro w' hw
              go_simp
              try with_reducible rfl
            simp only [Act.put, List.setIfInBounds_toArray, List.set_cons_zero, List.set_cons_succ]
            refine hs_take (i := 14) (d := some 110) (v := ?_) rfl (by kernel_rfl) (by kernel_rfl) (by kernel_rfl) (by rfl) ?_ hS rfl ?_
            rotate_left
            · intro w' hw
              obtain rfl : w8 = w' := hw.symm; have hc := xa
              go_simp
              try with_reducible rfl
            simp only [Act.put, List.setIfInBounds_toArray, List.set_cons_zero, List.set_cons_succ]
            refine hs_take (i := 15) (d := some 111) (v := ?_) rfl (by kernel_rfl) (by kernel_rfl) (by kernel_rfl) (by rfl) ?_ hS rfl ?_
            rotate_left
            · intro w' hw
              go_simp
              try with_reducible rfl
            simp only [Act.put, List.setIfInBounds_toArray, List.set_cons_zero, List.set_cons_succ]
            refine hs_take (i := 16) (d := some 112) (v := ?_) rfl (by kernel_rfl) (by kernel_rfl) (by kernel_rfl) (by rfl) ?_ hS rfl ?_
            rotate_left
            · intro w' hw
              obtain rfl : w8 = w' := hw.symm; have hc := kr
              go_simp
              try with_reducible rfl
            simp only [Act.put, List.setIfInBounds_toArray, List.set_cons_zero, List.set_cons_succ]
            refine hs_call (i := 17) (d := some 113) rfl (by kernel_rfl) (by rfl) (by go_simp; first | done | exact ⟨rfl, rfl⟩ | with_reducible rfl) rfl ?_
            refine (cP2 w8).mono ?_
            rintro e' w9 ⟨rfl, hx⟩
            obtain rfl := hx.symm
            clear hx
            refine ⟨_, rfl, rfl, ?_⟩
            simp only [Act.put, List.setIfInBounds_toArray, List.set_cons_zero, List.set_cons_succ]
            refine hs_take (i := 18) (d := some 114) (v := .bool false) rfl (by kernel_rfl) (by kernel_rfl) (by kernel_rfl) (by rfl) (fun w' hw => by go_simp) hS rfl ?_
            simp only [Act.put, List.setIfInBounds_toArray, List.set_cons_zero, List.set_cons_succ]
            refine hs_take (i := 19) (d := some 115) (v := .bool false) rfl (by kernel_rfl) (by kernel_rfl) (by kernel_rfl) (by rfl) (fun w' hw => by go_simp) hS rfl ?_
            simp only [Act.put, List.setIfInBounds_toArray, List.set_cons_zero, List.set_cons_succ]
            refine hs_done (by kernel_rfl) ?_
            clear kr cP1 cP2 hS
            go_wp2_with fail
            go_roundw
            case rel => exact ⟨2, by omega, rfl, HR.out.1, HR.out.2.1, HR.out.2.2⟩
            case measure => simp [intOf]
          · have cL := cL wo
            go_wp2_with fail
            refine cL.mono ?_
            rintro e w9 ⟨rfl, hb9⟩
            clear cL
            go_wp2_with fail
            go_ret
            exact ⟨rfl, hB.trans (hb9.mono hB.size)⟩
end Go.Proofs.Ytfkchnjbbbhmjaa
