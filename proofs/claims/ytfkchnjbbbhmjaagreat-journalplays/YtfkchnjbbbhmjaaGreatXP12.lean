/- both's act of any kind; the walk of JournalPlays; the arguments of journal's laws; the arguments of JournalPlays; raddlelaw16.Light: are records not more than are looked at? -/
import Derived.Test.YtfkchnjbbbhmjaaGreatXP11
import Derived.Test.YtfkchnjbbbhmjaaGreatXP6
import Derived.Test.YtfkchnjbbbhmjaaGreatXP10
import Derived.Test.YtfkchnjbbbhmjaaGreatXP7
namespace Go.Proofs.YtfkchnjbbbhmjaaGreat.Ty
open Go.RowKit
open Tal
set_option linter.unusedVariables false
theorem act_any (n0 bq p r : Nat) (R : Int) (A : Nat → Prop) (M : Mt) (jv jr : Option Addr) (y : Av) (w : World) (h : Bs n0 R A w bq p r M jv jr) (hy : y.ok n0 w) :
    Calls Tryz.prog 9 #[.pointer (some ⟨bq, 0, none⟩), .agg y.cells.toArray] w fun e w' => e = .returned (.bool true) ∧ Below n0 w w' ∧ ∃ A' M' jv' jr', Bs n0 R A' w' bq p r M' jv' jr' := by
  by_cases k3 : y.kind = 3
  · exact act_3 n0 bq p r R A M jv jr y w h hy k3
  by_cases k4 : y.kind = 4
  · exact act_4 n0 bq p r R A M jv jr y w h hy k4
  by_cases k5 : y.kind = 5
  · exact act_5 n0 bq p r R A M jv jr y w h hy k5
  by_cases k6 : y.kind = 6
  · exact act_6 n0 bq p r R A M jv jr y w h hy k6
  by_cases k7 : y.kind = 7
  · exact act_7 n0 bq p r R A M jv jr y w h hy k7
  rcases h.js with ⟨rfl, rfl⟩ | ⟨q, q', k, tu, fs, rfl, rfl, j1, j2, ha⟩
  · exact act_none n0 bq p r R A M none y w h hy ⟨k3, k4, k5, k6, k7⟩
  by_cases k0 : y.kind = 0
  · exact act_0 n0 bq p r q q' k tu fs R A M y w h j1 j2 ha hy k0
  by_cases k1 : y.kind = 1
  · exact act_1 n0 bq p r q q' k tu fs R A M y w h j1 j2 ha hy k1
  by_cases k2 : y.kind = 2
  · exact act_2 n0 bq p r q q' k tu fs R A M y w h j1 j2 ha hy k2
  exact act_other n0 bq p r q' R A M _ y w h hy ⟨⟨k0, k1, k2⟩, k3, k4, k5, k6, k7⟩
theorem ex_load_mid {P : Program} {op : Oper} {a : Act} {ty : TypeId} {x : Operand} (ho : op.op = .load ty x) {b o : Nat} (hx : a.eval x = .pointer (some ⟨b, o, none⟩)) {cs : List Value} {d : TypeDesc} {w : World} (hr : w.rangeAt b o cs) (hu : P.underlying ty = some d) (hd : d.isRow = true) (hi : (P.info? ty).map (·.size) = some cs.length) : (execOp a.eval op).run P w = .ok (.value (.agg cs.toArray)) w := by
  unfold execOp
  simp only [ho, hx, Instr.loadAt, Instr.sureAddr, Sem.run_bind, Sem.run_pure, Result.andThen_ok, run_loadVar_mid w b o ty cs d hr hu hd hi]
theorem hut_of (z : Int) : ∃ n : Nat, n < 100000 ∧ IntKind.i64.wrap ((IntKind.u64.wrap z).tmod 100000) = (n : Int) := by
  rw [IntKind.wrap_u64]
  have h0 : 0 ≤ z % 18446744073709551616 := Int.emod_nonneg _ (by omega)
  rw [Int.tmod_eq_emod_of_nonneg h0]
  refine ⟨((z % 18446744073709551616) % 100000).toNat, by omega, ?_⟩
  rw [IntKind.wrap_i64]
  omega
theorem jb_eq {R : Int} {M : Mt} (h : Kp R M) (k : Bool) : M.jbytes (if k then 1 else 0) = ((M.get k).length : Int) := by
  unfold Mt.jbytes
  cases hon : M.on
  · rw [if_neg (by simp)]
    have := h.dark hon
    cases k
    · show (M.sa : Int) = (M.a.length : Int); rw [this.1]
    · show (M.sb : Int) = (M.b.length : Int); rw [this.2]
  · rw [if_pos rfl, read_ka' hon k]
theorem iszV (y : Av) : (Tryz.prog.info? 38).map (·.size) = some y.cells.length := by kernel_rfl
theorem Av.one (y : Av) : ∀ v ∈ y.cells, v.oneCell' = true := by
  intro v hv
  simp only [Av.cells, List.mem_cons, List.not_mem_nil, or_false] at hv
  rcases hv with rfl | rfl | rfl | rfl | rfl <;> rfl
/-- the pair at first -/
theorem bs_new {w w1 w2 w3 : World} {R : Int} {t : Tv} {v : Rv} (n0 : Nat) (hn : n0 ≤ w.heap.size) (hR0 : R ≤ 100000) (ht : TapeAt w2 t (Mt.new R)) (hv : RefAt w2 v (Mt.new R)) (d1 : ∀ b, t.own b → ¬ v.own b) (d2 : ∀ b, t.own b → w.heap.size ≤ b) (d3 : ∀ b, v.own b → w.heap.size ≤ b) (hs : w.heap.size ≤ w2.heap.size) :
    Bs n0 R (fun b => b < n0 ∨ b = w2.heap.size) (w2.alloc (.cells #[.pointer (some ⟨t.p, 0, none⟩), .pointer none, .pointer (some ⟨v.r, 0, none⟩), .pointer none] 34)) w2.heap.size t.p v.r (Mt.new R) none none := by
  have hb : Below w2.heap.size w2 (w2.alloc (.cells #[.pointer (some ⟨t.p, 0, none⟩), .pointer none, .pointer (some ⟨v.r, 0, none⟩), .pointer none] 34)) := (Below.refl _ _).alloc (Nat.le_refl _) _
  have h1 := range_new w2 #[.pointer (some ⟨t.p, 0, none⟩), .pointer none, .pointer (some ⟨v.r, 0, none⟩), .pointer none] 34
  have h2 := there_new w2 #[.pointer (some ⟨t.p, 0, none⟩), .pointer none, .pointer (some ⟨v.r, 0, none⟩), .pointer none] 34
  have hz : w2.heap.size < (w2.alloc (.cells #[.pointer (some ⟨t.p, 0, none⟩), .pointer none, .pointer (some ⟨v.r, 0, none⟩), .pointer none] 34)).heap.size := by simp
  refine ⟨fun b z => ?_, fun b z => .inl z, by omega, .inr rfl, ⟨h1, h2⟩, ⟨t, v, rfl, rfl, ht.below hb, hv.below hb, d1, fun b z z1 => ?_, fun b z z1 => ?_⟩, .inl ⟨rfl, rfl⟩, ⟨by simp [Mt.new], by simp [Mt.new], rfl, fun z => by cases z⟩, hR0⟩
  · rcases z with z | z <;> omega
  · have := d2 b z
    have := ht.own_lt z
    rcases z1 with z1 | z1 <;> omega
  · have := d3 b z
    have := hv.own_lt z
    rcases z1 with z1 | z1 <;> omega
set_option maxRecDepth 100000 in
set_option maxHeartbeats 16000000 in
theorem jplays_walk (room : Int) (a : Option Addr) (cap : Nat) (ys : List Av) (hl : ys.length ≤ maxLen) (w : World) (h : RowOf Av.cells w a ys)
    (hok : (∀ y ∈ ys, y.rs.length ≤ 100) → ∀ y ∈ ys, y.ok w.heap.size w)
    (cLi : Calls Tryz.prog 4 #[.slice a ys.length cap] w fun e w' => (e = .returned (.bool false) ∧ Below w.heap.size w w') ∨ (e = .returned (.bool true) ∧ Below w.heap.size w w' ∧ ∀ y ∈ ys, y.rs.length ≤ 100)) :
    Calls Tryz.prog 3 #[.int .i64 room, .slice a ys.length cap] w fun e w' => e = .returned (.bool true) ∧ Below w.heap.size w w' := by
  obtain ⟨nn, hnn, RM⟩ := hut_of room
  unfold maxLen at hl
  go_enter Tryz.func3, Tryz.ntmps3
  go_wp2_with fail
  refine cLi.mono ?_
  rintro e w1 (⟨rfl, hB1⟩ | ⟨rfl, hB1, hle⟩)
  · clear cLi
    have cV := lives16_any w1
    go_wp2_with fail
    refine cV.mono ?_
    rintro e w9 ⟨rfl, hB9⟩
    clear cV
    go_wp2
    go_ret
    exact ⟨rfl, hB1.trans (hB9.mono hB1.size)⟩
  clear cLi
  have ho := hok hle
  clear hok hle
  have c1 := new_yes (nn : Int) w1 (by omega) (by omega)
  have c2 := fun w0 => rnew_yes (nn : Int) w0 (by omega) (by omega)
  unfold tptr at c1
  unfold rptr at c2
  go_wp2_with fail
  refine c1.mono ?_
  rintro e w2 ⟨rfl, hB2, hT2⟩
  clear c1
  have c2 := c2 w2
  go_wp2_with fail
  refine c2.mono ?_
  rintro e w3 ⟨rfl, hB3, hT3⟩
  clear c2
  have tn : ∀ b, (newTv w1).own b → b = w1.heap.size := by
    rintro b (q | q | q)
    · exact q
    · simp [newTv, Value.ownBlock] at q
    · simp [newTv, Value.ownBlock] at q
  have rn : ∀ b, (newRv w2).own b → b = w2.heap.size := by
    rintro b (q | ⟨x, hx, _⟩ | ⟨x, hx, _⟩)
    · exact q
    · simp [newRv] at hx
    · simp [newRv] at hx
  have hlt : w1.heap.size < w2.heap.size := hT2.mono_x
  have hs1 := hB1.size
  have hs3 := hB3.size
  have hbs := bs_new (w := w1) (w1 := w1) (w3 := w1) (R := (nn : Int)) w.heap.size hs1 (by omega) (hT2.below hB3) hT3 (fun b z z1 => by have := tn b z; have := rn b z1; omega) (fun b z => by have := tn b z; omega) (fun b z => by have := rn b z; omega) (by omega)
  have ep : (newTv w1).p = w1.heap.size := rfl
  have er : (newRv w2).r = w2.heap.size := rfl
  rw [ep, er] at hbs
  obtain ⟨p, hp⟩ : ∃ p, Hid (w1.heap.size = p) := ⟨_, hide rfl⟩
  obtain ⟨r, hr⟩ : ∃ r, Hid (w2.heap.size = r) := ⟨_, hide rfl⟩
  obtain ⟨bq, hbq⟩ : ∃ bq, Hid (w3.heap.size = bq) := ⟨_, hide rfl⟩
  rw [ep, er]
  rw [hp.out, hr.out, hbq.out] at hbs
  rw [hp.out, hr.out]
  have B03 : Below w.heap.size w w3 := (hB1.trans (hB2.mono hs1)).trans (hB3.mono (by omega))
  have B04 := B03.alloc B03.size (.cells #[.pointer (some ⟨p, 0, none⟩), .pointer none, .pointer (some ⟨r, 0, none⟩), .pointer none] 34)
  have z0 := hbs.box.cell 0 rfl
  have cO := bopen_any w.heap.size bq p r (nn : Int) _ _ none none _ hbs
  clear tn rn hT2 hT3 hbs hB2 hB3 ep er hlt hs3
  go_wp2_with fail
  rw [hbq.out]
  go_wp2_with fail
  refine cO.mono ?_
  rintro e w5 ⟨rfl, hB5, -, hEx⟩
  clear cO z0
  have hB05 := B04.trans hB5
  clear B04 B03 hB5
  have HE := hide hEx
  clear hEx
  go_wp2_with fail
  go_loopw [35] (fun iv wr => ∃ (k : Nat) (A : Nat → Prop) (M : Mt) (jv jr : Option Addr), k ≤ ys.length ∧ iv = .int .i64 (k : Int) ∧ Bs w.heap.size (nn : Int) A wr bq p r M jv jr ∧ Below w.heap.size w wr) (fun iv _ => ys.length - (intOf iv).toNat)
  case atStart =>
    obtain ⟨A', M', jv', jr', hb⟩ := HE.out
    exact ⟨0, A', M', jv', jr', by omega, rfl, hb, hB05⟩
  case round =>
    clear HE hB05
    obtain ⟨k, A, M, jv, jr, hk, rfl, hBs, hB⟩ := hrel
    obtain ⟨wo, rfl⟩ : ∃ wo, wo = wr := ⟨_, rfl⟩
    by_cases hlt : k < ys.length
    · have hltI : (k : Int) < (ys.length : Int) := by omega
      obtain ⟨rb, off, rfl, hrb, hre0⟩ := h.elem (k := 5) (fun _ _ => rfl) k hlt
      have hyo := ho _ (List.getElem_mem hlt)
      have hre := range_below hre0 hB hrb
      clear hre0
      obtain ⟨y, hy⟩ : ∃ y, Hid (ys[k] = y) := ⟨_, hide rfl⟩
      rw [hy.out] at hre hyo
      clear hy
      obtain ⟨u, hu⟩ : ∃ u, Hid (y.cells = u) := ⟨_, hide rfl⟩
      rw [hu.out] at hre
      have F := fresh_store wo #[.int .i64 0, .slice none 0 0, .slice none 0 0, .int .i64 0, .int .i64 0] 38 u (by rw [← hu.out]; rfl)
      have hN : (wo.alloc (.cells #[.int .i64 0, .slice none 0 0, .slice none 0 0, .int .i64 0, .int .i64 0] 38)).there wo.heap.size 0 u.toArray.size := by
        have := there_new wo #[.int .i64 0, .slice none 0 0, .slice none 0 0, .int .i64 0, .int .i64 0] 38
        have e5 : u.toArray.size = 5 := by rw [← hu.out]; rfl
        rw [e5]; exact this
      have hiq : (Tryz.prog.info? 38).map (·.size) = some u.length := by rw [← hu.out]; exact iszV y
      have hiA : (Tryz.prog.info? 38).map (·.size) = some u.toArray.size := by rw [← hu.out]; exact iszV y
      have h1c : u.toArray.all (·.oneCell') = true := by rw [← hu.out]; exact all_oneCell_toArray (Av.one y)
      go_upto_region 9 with fail
      try simp only [Act.put]
      refine wp_region_list ?_
      refine wpList_step fun K hK => ?_
      go_simp
      refine hK _ _ ?_
      clear hK K
      refine wpList_load_mid rfl 38 _ rfl _ _ rfl u _ hre Tryz.underlying38 rfl hiq ?_
      go_upto_region 10 with (refine wpList_store_mid (op := ⟨none, .store 38 (.tmp 8) (.tmp 38), _, _, _, none⟩) rfl 38 _ _ rfl _ _ u.toArray rfl rfl hN hiA h1c ?_)
      go_name_world w3 hw3
      rw [show (wo.alloc (.cells #[.int .i64 0, .slice none 0 0, .slice none 0 0, .int .i64 0, .int .i64 0] 38)).setCells wo.heap.size 0 u = w3 from hw3] at F
      clear hw3 hN hiA h1c
      obtain ⟨hR3, hF3, hz3, -⟩ := F
      have hb3 := hBs.below hF3
      have hB03 := hB.trans (hF3.mono hB.size)
      try simp only [Act.put]
      go_wp2_with fail
      obtain ⟨w8, hw8⟩ : ∃ w8, w3.drew = w8 := ⟨_, rfl⟩
      have B38 : Below w3.heap.size w3 w8 := by rw [← hw8]; exact (Below.refl _ _).drew
      have hb8 := hb3.below B38
      have hB08 := hB03.trans (B38.mono hB03.size)
      have hR8 : w8.rangeAt wo.heap.size 0 u := range_below hR3 B38 (by omega)
      have cB := act_any w.heap.size bq p r (nn : Int) A M jv jr y w8 hb8 (hyo.below hB08)
      rw [hu.out] at cB
      refine hs_begin (S := (fun W : World => W.cell? ⟨bq, 0, none⟩ = some (.pointer (some ⟨p, 0, none⟩)) ∧ W.cell? ⟨bq, 2, none⟩ = some (.pointer (some ⟨r, 0, none⟩)))) 16 rfl (by kernel_rfl) ?_
      rw [hw8]
      clear hw8
      have hS : (fun W : World => W.cell? ⟨bq, 0, none⟩ = some (.pointer (some ⟨p, 0, none⟩)) ∧ W.cell? ⟨bq, 2, none⟩ = some (.pointer (some ⟨r, 0, none⟩))) w8 := ⟨hb8.box.cell 0 rfl, hb8.box.cell 2 rfl⟩
      refine hs_take (i := 0) (d := some 39) (v := ?_) rfl (by kernel_rfl) (by kernel_rfl) (by kernel_rfl) (by rfl) ?_ hS rfl ?_
      rotate_left
      · intro w' hw
        go_simp
        try with_reducible rfl
      simp only [Act.put, List.setIfInBounds_toArray, List.set_cons_zero, List.set_cons_succ]
      have hS : (fun W : World => W.cell? ⟨bq, 0, none⟩ = some (.pointer (some ⟨p, 0, none⟩)) ∧ W.cell? ⟨bq, 2, none⟩ = some (.pointer (some ⟨r, 0, none⟩))) w8 := hS
      refine hs_run (i := 1) (d := some 40) (v := .agg u.toArray) (w' := w8) rfl (by kernel_rfl) (by rfl) (ex_load_mid rfl rfl hR8 Tryz.underlying38 rfl hiq) rfl hS ?_
      simp only [Act.put, List.setIfInBounds_toArray, List.set_cons_zero, List.set_cons_succ]
      refine hs_call (i := 2) (d := some 41) rfl (by kernel_rfl) (by rfl) (by go_simp; first | done | exact ⟨rfl, rfl⟩ | with_reducible rfl) rfl ?_
      refine cB.mono ?_
      rintro e' w4 ⟨rfl, hBl4, A4, M4, jv4, jr4, hb4⟩
      have hS : (fun W : World => W.cell? ⟨bq, 0, none⟩ = some (.pointer (some ⟨p, 0, none⟩)) ∧ W.cell? ⟨bq, 2, none⟩ = some (.pointer (some ⟨r, 0, none⟩))) w4 := ⟨hb4.box.cell 0 rfl, hb4.box.cell 2 rfl⟩
      obtain ⟨t4, v4, hp4, hr4, e3, e4, e5, e6, e7⟩ := hb4.pr
      have cS := same_any t4 v4 M4 A4 w4 ⟨e3, e4, e5, e6, e7⟩
      unfold tptr rptr at cS
      rw [hp4, hr4] at cS
      refine ⟨_, rfl, hS, ?_⟩
      simp only [Act.put, List.setIfInBounds_toArray, List.set_cons_zero, List.set_cons_succ]
      refine hs_take (i := 3) (d := some 42) (v := ?_) rfl (by kernel_rfl) (by kernel_rfl) (by kernel_rfl) (by rfl) ?_ hS rfl ?_
      rotate_left
      · intro w' hw
        go_simp
        try with_reducible rfl
      simp only [Act.put, List.setIfInBounds_toArray, List.set_cons_zero, List.set_cons_succ]
      refine hs_take (i := 4) (d := some 43) (v := ?_) rfl (by kernel_rfl) (by kernel_rfl) (by kernel_rfl) (by rfl) ?_ hS rfl ?_
      rotate_left
      · intro w' hw
        go_simp
        try with_reducible rfl
      simp only [Act.put, List.setIfInBounds_toArray, List.set_cons_zero, List.set_cons_succ]
      refine hs_take (i := 5) (d := some 44) (v := ?_) rfl (by kernel_rfl) (by kernel_rfl) (by kernel_rfl) (by rfl) ?_ hS rfl ?_
      rotate_left
      · intro w' hw
        go_simp
        try with_reducible rfl
      simp only [Act.put, List.setIfInBounds_toArray, List.set_cons_zero, List.set_cons_succ]
      refine hs_take (i := 6) (d := some 45) (v := ?_) rfl (by kernel_rfl) (by kernel_rfl) (by kernel_rfl) (by rfl) ?_ hS rfl ?_
      rotate_left
      · intro w' hw
        go_simp
        try with_reducible rfl
      simp only [Act.put, List.setIfInBounds_toArray, List.set_cons_zero, List.set_cons_succ]
      refine hs_take (i := 7) (d := some 46) (v := ?_) rfl (by kernel_rfl) (by kernel_rfl) (by kernel_rfl) (by rfl) ?_ hS rfl ?_
      rotate_left
      · intro w' hw
        go_simp
        try with_reducible rfl
      simp only [Act.put, List.setIfInBounds_toArray, List.set_cons_zero, List.set_cons_succ]
      refine hs_take (i := 8) (d := some 47) (v := ?_) rfl (by kernel_rfl) (by kernel_rfl) (by kernel_rfl) (by rfl) ?_ hS rfl ?_
      rotate_left
      · intro w' hw
        have hc := hw.1
        go_simp
        try with_reducible rfl
      simp only [Act.put, List.setIfInBounds_toArray, List.set_cons_zero, List.set_cons_succ]
      refine hs_take (i := 9) (d := some 48) (v := ?_) rfl (by kernel_rfl) (by kernel_rfl) (by kernel_rfl) (by rfl) ?_ hS rfl ?_
      rotate_left
      · intro w' hw
        go_simp
        try with_reducible rfl
      simp only [Act.put, List.setIfInBounds_toArray, List.set_cons_zero, List.set_cons_succ]
      refine hs_take (i := 10) (d := some 49) (v := ?_) rfl (by kernel_rfl) (by kernel_rfl) (by kernel_rfl) (by rfl) ?_ hS rfl ?_
      rotate_left
      · intro w' hw
        go_simp
        try with_reducible rfl
      simp only [Act.put, List.setIfInBounds_toArray, List.set_cons_zero, List.set_cons_succ]
      refine hs_take (i := 11) (d := some 50) (v := ?_) rfl (by kernel_rfl) (by kernel_rfl) (by kernel_rfl) (by rfl) ?_ hS rfl ?_
      rotate_left
      · intro w' hw
        go_simp
        try with_reducible rfl
      simp only [Act.put, List.setIfInBounds_toArray, List.set_cons_zero, List.set_cons_succ]
      refine hs_take (i := 12) (d := some 51) (v := ?_) rfl (by kernel_rfl) (by kernel_rfl) (by kernel_rfl) (by rfl) ?_ hS rfl ?_
      rotate_left
      · intro w' hw
        have hc := hw.2
        go_simp
        try with_reducible rfl
      simp only [Act.put, List.setIfInBounds_toArray, List.set_cons_zero, List.set_cons_succ]
      refine hs_call (i := 13) (d := some 52) rfl (by kernel_rfl) (by rfl) (by go_simp; first | done | exact ⟨rfl, rfl⟩ | with_reducible rfl) rfl ?_
      refine cS.mono ?_
      rintro e' w5 ⟨rfl, hB5⟩
      have hb5 := hb4.below hB5
      have hS : (fun W : World => W.cell? ⟨bq, 0, none⟩ = some (.pointer (some ⟨p, 0, none⟩)) ∧ W.cell? ⟨bq, 2, none⟩ = some (.pointer (some ⟨r, 0, none⟩))) w5 := ⟨hb5.box.cell 0 rfl, hb5.box.cell 2 rfl⟩
      refine ⟨_, rfl, hS, ?_⟩
      simp only [Act.put, List.setIfInBounds_toArray, List.set_cons_zero, List.set_cons_succ]
      refine hs_take (i := 14) (d := some 53) (v := ?_) rfl (by kernel_rfl) (by kernel_rfl) (by kernel_rfl) (by rfl) ?_ hS rfl ?_
      rotate_left
      · intro w' hw
        go_simp
        try with_reducible rfl
      simp only [Act.put, List.setIfInBounds_toArray, List.set_cons_zero, List.set_cons_succ]
      refine hs_take (i := 15) (d := some 54) (v := ?_) rfl (by kernel_rfl) (by kernel_rfl) (by kernel_rfl) (by rfl) ?_ hS rfl ?_
      rotate_left
      · intro w' hw
        go_simp
        try with_reducible rfl
      simp only [Act.put, List.setIfInBounds_toArray, List.set_cons_zero, List.set_cons_succ]
      refine hs_done (by kernel_rfl) ?_
      have hB45 := (hB08.trans hBl4).trans (hB5.mono (by have := hB08.size; have := hBl4.size; omega))
      clear hS cB cS hb8 hb4 e3 e4 e5 e6 e7 hBs hb3 hR3 hR8 hF3 hB08 hBl4 hyo hre
      go_wp2_with fail
      obtain ⟨w8, hw8⟩ : ∃ w8, w5.drew = w8 := ⟨_, rfl⟩
      have B58 : Below w5.heap.size w5 w8 := by rw [← hw8]; exact (Below.refl _ _).drew
      have hb8 := hb5.below B58
      have hB45 := hB45.trans (B58.mono (by have := hB45.size; have := hb5.bq0; have := hb5.box.lt; omega))
      have HB8 := hide hb8
      rcases hb8.js with ⟨rfl, rfl⟩ | ⟨q, q', kq, tu, fs, rfl, rfl, j1, j2, -⟩
      · have z3 : ∀ w', Below w8.heap.size w8 w' → w'.cell? ⟨bq, 3, none⟩ = some (.pointer none) := fun w' hw => (HB8.out.below hw).box.cell 3 rfl
        clear hb8 hb5
        refine hs_begin (S := (Below w8.heap.size w8)) 70 rfl (by kernel_rfl) ?_
        rw [hw8]
        clear hw8
        have hS : (Below w8.heap.size w8) w8 := Below.refl _ _
        refine hs_take (i := 0) (d := some 55) (v := ?_) rfl (by kernel_rfl) (by kernel_rfl) (by kernel_rfl) (by rfl) ?_ hS rfl ?_
        rotate_left
        · intro w' hw
          go_simp
          try with_reducible rfl
        simp only [Act.put, List.setIfInBounds_toArray, List.set_cons_zero, List.set_cons_succ]
        refine hs_take (i := 1) (d := some 56) (v := ?_) rfl (by kernel_rfl) (by kernel_rfl) (by kernel_rfl) (by rfl) ?_ hS rfl ?_
        rotate_left
        · intro w' hw
          go_simp
          try with_reducible rfl
        simp only [Act.put, List.setIfInBounds_toArray, List.set_cons_zero, List.set_cons_succ]
        refine hs_take (i := 2) (d := some 57) (v := ?_) rfl (by kernel_rfl) (by kernel_rfl) (by kernel_rfl) (by rfl) ?_ hS rfl ?_
        rotate_left
        · intro w' hw
          go_simp
          try with_reducible rfl
        simp only [Act.put, List.setIfInBounds_toArray, List.set_cons_zero, List.set_cons_succ]
        refine hs_take (i := 3) (d := some 58) (v := ?_) rfl (by kernel_rfl) (by kernel_rfl) (by kernel_rfl) (by rfl) ?_ hS rfl ?_
        rotate_left
        · intro w' hw
          have hc := z3 w' hw
          go_simp
          try with_reducible rfl
        simp only [Act.put, List.setIfInBounds_toArray, List.set_cons_zero, List.set_cons_succ]
        refine hs_take (i := 4) (d := some 59) (v := ?_) rfl (by kernel_rfl) (by kernel_rfl) (by kernel_rfl) (by rfl) ?_ hS rfl ?_
        rotate_left
        · intro w' hw
          go_simp
          try with_reducible rfl
        simp only [Act.put, List.setIfInBounds_toArray, List.set_cons_zero, List.set_cons_succ]
        refine hs_take (i := 5) (d := some 60) (v := ?_) rfl (by kernel_rfl) (by kernel_rfl) (by kernel_rfl) (by rfl) ?_ hS rfl ?_
        rotate_left
        · intro w' hw
          go_simp
          try with_reducible rfl
        simp only [Act.put, List.setIfInBounds_toArray, List.set_cons_zero, List.set_cons_succ]
        refine hs_skip (i := 6) (d := some 61) rfl (by kernel_rfl) (by kernel_rfl) (by kernel_rfl) (by rfl) hS rfl ?_
        simp only [Act.put, List.setIfInBounds_toArray, List.set_cons_zero, List.set_cons_succ]
        refine hs_skip (i := 7) (d := some 62) rfl (by kernel_rfl) (by kernel_rfl) (by kernel_rfl) (by rfl) hS rfl ?_
        simp only [Act.put, List.setIfInBounds_toArray, List.set_cons_zero, List.set_cons_succ]
        refine hs_skip (i := 8) (d := some 63) rfl (by kernel_rfl) (by kernel_rfl) (by kernel_rfl) (by rfl) hS rfl ?_
        simp only [Act.put, List.setIfInBounds_toArray, List.set_cons_zero, List.set_cons_succ]
        refine hs_skip (i := 9) (d := some 64) rfl (by kernel_rfl) (by kernel_rfl) (by kernel_rfl) (by rfl) hS rfl ?_
        simp only [Act.put, List.setIfInBounds_toArray, List.set_cons_zero, List.set_cons_succ]
        refine hs_skip (i := 10) (d := some 65) rfl (by kernel_rfl) (by kernel_rfl) (by kernel_rfl) (by rfl) hS rfl ?_
        simp only [Act.put, List.setIfInBounds_toArray, List.set_cons_zero, List.set_cons_succ]
        refine hs_skip (i := 11) (d := some 66) rfl (by kernel_rfl) (by kernel_rfl) (by kernel_rfl) (by rfl) hS rfl ?_
        simp only [Act.put, List.setIfInBounds_toArray, List.set_cons_zero, List.set_cons_succ]
        refine hs_skip (i := 12) (d := some 67) rfl (by kernel_rfl) (by kernel_rfl) (by kernel_rfl) (by rfl) hS rfl ?_
        simp only [Act.put, List.setIfInBounds_toArray, List.set_cons_zero, List.set_cons_succ]
        refine hs_skip (i := 13) (d := some 68) rfl (by kernel_rfl) (by kernel_rfl) (by kernel_rfl) (by rfl) hS rfl ?_
        simp only [Act.put, List.setIfInBounds_toArray, List.set_cons_zero, List.set_cons_succ]
        refine hs_skip (i := 14) (d := some 69) rfl (by kernel_rfl) (by kernel_rfl) (by kernel_rfl) (by rfl) hS rfl ?_
        simp only [Act.put, List.setIfInBounds_toArray, List.set_cons_zero, List.set_cons_succ]
        refine hs_skip (i := 15) (d := some 70) rfl (by kernel_rfl) (by kernel_rfl) (by kernel_rfl) (by rfl) hS rfl ?_
        simp only [Act.put, List.setIfInBounds_toArray, List.set_cons_zero, List.set_cons_succ]
        refine hs_skip (i := 16) (d := some 71) rfl (by kernel_rfl) (by kernel_rfl) (by kernel_rfl) (by rfl) hS rfl ?_
        simp only [Act.put, List.setIfInBounds_toArray, List.set_cons_zero, List.set_cons_succ]
        refine hs_skip (i := 17) (d := some 72) rfl (by kernel_rfl) (by kernel_rfl) (by kernel_rfl) (by rfl) hS rfl ?_
        simp only [Act.put, List.setIfInBounds_toArray, List.set_cons_zero, List.set_cons_succ]
        refine hs_skip (i := 18) (d := some 73) rfl (by kernel_rfl) (by kernel_rfl) (by kernel_rfl) (by rfl) hS rfl ?_
        simp only [Act.put, List.setIfInBounds_toArray, List.set_cons_zero, List.set_cons_succ]
        refine hs_skip (i := 19) (d := some 74) rfl (by kernel_rfl) (by kernel_rfl) (by kernel_rfl) (by rfl) hS rfl ?_
        simp only [Act.put, List.setIfInBounds_toArray, List.set_cons_zero, List.set_cons_succ]
        refine hs_skip (i := 20) (d := some 75) rfl (by kernel_rfl) (by kernel_rfl) (by kernel_rfl) (by rfl) hS rfl ?_
        simp only [Act.put, List.setIfInBounds_toArray, List.set_cons_zero, List.set_cons_succ]
        refine hs_skip (i := 21) (d := some 76) rfl (by kernel_rfl) (by kernel_rfl) (by kernel_rfl) (by rfl) hS rfl ?_
        simp only [Act.put, List.setIfInBounds_toArray, List.set_cons_zero, List.set_cons_succ]
        refine hs_skip (i := 22) (d := some 77) rfl (by kernel_rfl) (by kernel_rfl) (by kernel_rfl) (by rfl) hS rfl ?_
        simp only [Act.put, List.setIfInBounds_toArray, List.set_cons_zero, List.set_cons_succ]
        refine hs_skip (i := 23) (d := some 78) rfl (by kernel_rfl) (by kernel_rfl) (by kernel_rfl) (by rfl) hS rfl ?_
        simp only [Act.put, List.setIfInBounds_toArray, List.set_cons_zero, List.set_cons_succ]
        refine hs_skip (i := 24) (d := some 79) rfl (by kernel_rfl) (by kernel_rfl) (by kernel_rfl) (by rfl) hS rfl ?_
        simp only [Act.put, List.setIfInBounds_toArray, List.set_cons_zero, List.set_cons_succ]
        refine hs_skip (i := 25) (d := some 80) rfl (by kernel_rfl) (by kernel_rfl) (by kernel_rfl) (by rfl) hS rfl ?_
        simp only [Act.put, List.setIfInBounds_toArray, List.set_cons_zero, List.set_cons_succ]
        refine hs_skip (i := 26) (d := some 81) rfl (by kernel_rfl) (by kernel_rfl) (by kernel_rfl) (by rfl) hS rfl ?_
        simp only [Act.put, List.setIfInBounds_toArray, List.set_cons_zero, List.set_cons_succ]
        refine hs_skip (i := 27) (d := some 82) rfl (by kernel_rfl) (by kernel_rfl) (by kernel_rfl) (by rfl) hS rfl ?_
        simp only [Act.put, List.setIfInBounds_toArray, List.set_cons_zero, List.set_cons_succ]
        refine hs_skip (i := 28) (d := some 83) rfl (by kernel_rfl) (by kernel_rfl) (by kernel_rfl) (by rfl) hS rfl ?_
        simp only [Act.put, List.setIfInBounds_toArray, List.set_cons_zero, List.set_cons_succ]
        refine hs_skip (i := 29) (d := some 84) rfl (by kernel_rfl) (by kernel_rfl) (by kernel_rfl) (by rfl) hS rfl ?_
        simp only [Act.put, List.setIfInBounds_toArray, List.set_cons_zero, List.set_cons_succ]
        refine hs_skip (i := 30) (d := some 85) rfl (by kernel_rfl) (by kernel_rfl) (by kernel_rfl) (by rfl) hS rfl ?_
        simp only [Act.put, List.setIfInBounds_toArray, List.set_cons_zero, List.set_cons_succ]
        refine hs_skip (i := 31) (d := some 86) rfl (by kernel_rfl) (by kernel_rfl) (by kernel_rfl) (by rfl) hS rfl ?_
        simp only [Act.put, List.setIfInBounds_toArray, List.set_cons_zero, List.set_cons_succ]
        refine hs_skip (i := 32) (d := some 87) rfl (by kernel_rfl) (by kernel_rfl) (by kernel_rfl) (by rfl) hS rfl ?_
        simp only [Act.put, List.setIfInBounds_toArray, List.set_cons_zero, List.set_cons_succ]
        refine hs_skip (i := 33) (d := some 88) rfl (by kernel_rfl) (by kernel_rfl) (by kernel_rfl) (by rfl) hS rfl ?_
        simp only [Act.put, List.setIfInBounds_toArray, List.set_cons_zero, List.set_cons_succ]
        refine hs_skip (i := 34) (d := some 89) rfl (by kernel_rfl) (by kernel_rfl) (by kernel_rfl) (by rfl) hS rfl ?_
        simp only [Act.put, List.setIfInBounds_toArray, List.set_cons_zero, List.set_cons_succ]
        refine hs_skip (i := 35) (d := some 90) rfl (by kernel_rfl) (by kernel_rfl) (by kernel_rfl) (by rfl) hS rfl ?_
        simp only [Act.put, List.setIfInBounds_toArray, List.set_cons_zero, List.set_cons_succ]
        refine hs_skip (i := 36) (d := some 91) rfl (by kernel_rfl) (by kernel_rfl) (by kernel_rfl) (by rfl) hS rfl ?_
        simp only [Act.put, List.setIfInBounds_toArray, List.set_cons_zero, List.set_cons_succ]
        refine hs_skip (i := 37) (d := some 92) rfl (by kernel_rfl) (by kernel_rfl) (by kernel_rfl) (by rfl) hS rfl ?_
        simp only [Act.put, List.setIfInBounds_toArray, List.set_cons_zero, List.set_cons_succ]
        refine hs_skip (i := 38) (d := some 93) rfl (by kernel_rfl) (by kernel_rfl) (by kernel_rfl) (by rfl) hS rfl ?_
        simp only [Act.put, List.setIfInBounds_toArray, List.set_cons_zero, List.set_cons_succ]
        refine hs_skip (i := 39) (d := some 94) rfl (by kernel_rfl) (by kernel_rfl) (by kernel_rfl) (by rfl) hS rfl ?_
        simp only [Act.put, List.setIfInBounds_toArray, List.set_cons_zero, List.set_cons_succ]
        refine hs_skip (i := 40) (d := some 95) rfl (by kernel_rfl) (by kernel_rfl) (by kernel_rfl) (by rfl) hS rfl ?_
        simp only [Act.put, List.setIfInBounds_toArray, List.set_cons_zero, List.set_cons_succ]
        refine hs_skip (i := 41) (d := some 96) rfl (by kernel_rfl) (by kernel_rfl) (by kernel_rfl) (by rfl) hS rfl ?_
        simp only [Act.put, List.setIfInBounds_toArray, List.set_cons_zero, List.set_cons_succ]
        refine hs_skip (i := 42) (d := some 97) rfl (by kernel_rfl) (by kernel_rfl) (by kernel_rfl) (by rfl) hS rfl ?_
        simp only [Act.put, List.setIfInBounds_toArray, List.set_cons_zero, List.set_cons_succ]
        refine hs_skip (i := 43) (d := some 98) rfl (by kernel_rfl) (by kernel_rfl) (by kernel_rfl) (by rfl) hS rfl ?_
        simp only [Act.put, List.setIfInBounds_toArray, List.set_cons_zero, List.set_cons_succ]
        refine hs_skip (i := 44) (d := some 99) rfl (by kernel_rfl) (by kernel_rfl) (by kernel_rfl) (by rfl) hS rfl ?_
        simp only [Act.put, List.setIfInBounds_toArray, List.set_cons_zero, List.set_cons_succ]
        refine hs_skip (i := 45) (d := some 100) rfl (by kernel_rfl) (by kernel_rfl) (by kernel_rfl) (by rfl) hS rfl ?_
        simp only [Act.put, List.setIfInBounds_toArray, List.set_cons_zero, List.set_cons_succ]
        refine hs_skip (i := 46) (d := some 101) rfl (by kernel_rfl) (by kernel_rfl) (by kernel_rfl) (by rfl) hS rfl ?_
        simp only [Act.put, List.setIfInBounds_toArray, List.set_cons_zero, List.set_cons_succ]
        refine hs_skip (i := 47) (d := some 102) rfl (by kernel_rfl) (by kernel_rfl) (by kernel_rfl) (by rfl) hS rfl ?_
        simp only [Act.put, List.setIfInBounds_toArray, List.set_cons_zero, List.set_cons_succ]
        refine hs_skip (i := 48) (d := some 103) rfl (by kernel_rfl) (by kernel_rfl) (by kernel_rfl) (by rfl) hS rfl ?_
        simp only [Act.put, List.setIfInBounds_toArray, List.set_cons_zero, List.set_cons_succ]
        refine hs_skip (i := 49) (d := some 104) rfl (by kernel_rfl) (by kernel_rfl) (by kernel_rfl) (by rfl) hS rfl ?_
        simp only [Act.put, List.setIfInBounds_toArray, List.set_cons_zero, List.set_cons_succ]
        refine hs_skip (i := 50) (d := some 105) rfl (by kernel_rfl) (by kernel_rfl) (by kernel_rfl) (by rfl) hS rfl ?_
        simp only [Act.put, List.setIfInBounds_toArray, List.set_cons_zero, List.set_cons_succ]
        refine hs_skip (i := 51) (d := some 106) rfl (by kernel_rfl) (by kernel_rfl) (by kernel_rfl) (by rfl) hS rfl ?_
        simp only [Act.put, List.setIfInBounds_toArray, List.set_cons_zero, List.set_cons_succ]
        refine hs_skip (i := 52) (d := some 107) rfl (by kernel_rfl) (by kernel_rfl) (by kernel_rfl) (by rfl) hS rfl ?_
        simp only [Act.put, List.setIfInBounds_toArray, List.set_cons_zero, List.set_cons_succ]
        refine hs_skip (i := 53) (d := some 108) rfl (by kernel_rfl) (by kernel_rfl) (by kernel_rfl) (by rfl) hS rfl ?_
        simp only [Act.put, List.setIfInBounds_toArray, List.set_cons_zero, List.set_cons_succ]
        refine hs_skip (i := 54) (d := some 109) rfl (by kernel_rfl) (by kernel_rfl) (by kernel_rfl) (by rfl) hS rfl ?_
        simp only [Act.put, List.setIfInBounds_toArray, List.set_cons_zero, List.set_cons_succ]
        refine hs_skip (i := 55) (d := some 110) rfl (by kernel_rfl) (by kernel_rfl) (by kernel_rfl) (by rfl) hS rfl ?_
        simp only [Act.put, List.setIfInBounds_toArray, List.set_cons_zero, List.set_cons_succ]
        refine hs_skip (i := 56) (d := some 111) rfl (by kernel_rfl) (by kernel_rfl) (by kernel_rfl) (by rfl) hS rfl ?_
        simp only [Act.put, List.setIfInBounds_toArray, List.set_cons_zero, List.set_cons_succ]
        refine hs_skip (i := 57) (d := some 112) rfl (by kernel_rfl) (by kernel_rfl) (by kernel_rfl) (by rfl) hS rfl ?_
        simp only [Act.put, List.setIfInBounds_toArray, List.set_cons_zero, List.set_cons_succ]
        refine hs_skip (i := 58) (d := some 113) rfl (by kernel_rfl) (by kernel_rfl) (by kernel_rfl) (by rfl) hS rfl ?_
        simp only [Act.put, List.setIfInBounds_toArray, List.set_cons_zero, List.set_cons_succ]
        refine hs_skip (i := 59) (d := some 114) rfl (by kernel_rfl) (by kernel_rfl) (by kernel_rfl) (by rfl) hS rfl ?_
        simp only [Act.put, List.setIfInBounds_toArray, List.set_cons_zero, List.set_cons_succ]
        refine hs_skip (i := 60) (d := some 115) rfl (by kernel_rfl) (by kernel_rfl) (by kernel_rfl) (by rfl) hS rfl ?_
        simp only [Act.put, List.setIfInBounds_toArray, List.set_cons_zero, List.set_cons_succ]
        refine hs_skip (i := 61) (d := some 116) rfl (by kernel_rfl) (by kernel_rfl) (by kernel_rfl) (by rfl) hS rfl ?_
        simp only [Act.put, List.setIfInBounds_toArray, List.set_cons_zero, List.set_cons_succ]
        refine hs_skip (i := 62) (d := some 117) rfl (by kernel_rfl) (by kernel_rfl) (by kernel_rfl) (by rfl) hS rfl ?_
        simp only [Act.put, List.setIfInBounds_toArray, List.set_cons_zero, List.set_cons_succ]
        refine hs_skip (i := 63) (d := some 118) rfl (by kernel_rfl) (by kernel_rfl) (by kernel_rfl) (by rfl) hS rfl ?_
        simp only [Act.put, List.setIfInBounds_toArray, List.set_cons_zero, List.set_cons_succ]
        refine hs_skip (i := 64) (d := some 119) rfl (by kernel_rfl) (by kernel_rfl) (by kernel_rfl) (by rfl) hS rfl ?_
        simp only [Act.put, List.setIfInBounds_toArray, List.set_cons_zero, List.set_cons_succ]
        refine hs_skip (i := 65) (d := some 120) rfl (by kernel_rfl) (by kernel_rfl) (by kernel_rfl) (by rfl) hS rfl ?_
        simp only [Act.put, List.setIfInBounds_toArray, List.set_cons_zero, List.set_cons_succ]
        refine hs_skip (i := 66) (d := some 121) rfl (by kernel_rfl) (by kernel_rfl) (by kernel_rfl) (by rfl) hS rfl ?_
        simp only [Act.put, List.setIfInBounds_toArray, List.set_cons_zero, List.set_cons_succ]
        refine hs_skip (i := 67) (d := some 122) rfl (by kernel_rfl) (by kernel_rfl) (by kernel_rfl) (by rfl) hS rfl ?_
        simp only [Act.put, List.setIfInBounds_toArray, List.set_cons_zero, List.set_cons_succ]
        refine hs_skip (i := 68) (d := some 123) rfl (by kernel_rfl) (by kernel_rfl) (by kernel_rfl) (by rfl) hS rfl ?_
        simp only [Act.put, List.setIfInBounds_toArray, List.set_cons_zero, List.set_cons_succ]
        refine hs_take (i := 69) (d := some 124) (v := ?_) rfl (by kernel_rfl) (by kernel_rfl) (by kernel_rfl) (by rfl) ?_ hS rfl ?_
        rotate_left
        · intro w' hw
          go_simp
          try with_reducible rfl
        simp only [Act.put, List.setIfInBounds_toArray, List.set_cons_zero, List.set_cons_succ]
        refine hs_done (by kernel_rfl) ?_
        have hBn := hB45.trans (hS.mono hB45.size)
        have hbn := HB8.out.below hS
        clear hS
        go_wp2_with fail
        go_roundw
        case rel => exact ⟨k + 1, _, _, _, _, by omega, by go_num, hbn, hBn⟩
        case measure => simp [intOf]; omega
      · have z1 : ∀ w', Below w8.heap.size w8 w' → w'.cell? ⟨bq, 1, none⟩ = some (.pointer (some ⟨q, 0, none⟩)) := fun w' hw => (HB8.out.below hw).box.cell 1 rfl
        have z2 : ∀ w', Below w8.heap.size w8 w' → w'.cell? ⟨bq, 2, none⟩ = some (.pointer (some ⟨r, 0, none⟩)) := fun w' hw => (HB8.out.below hw).box.cell 2 rfl
        have z3 : ∀ w', Below w8.heap.size w8 w' → w'.cell? ⟨bq, 3, none⟩ = some (.pointer (some ⟨q', 0, none⟩)) := fun w' hw => (HB8.out.below hw).box.cell 3 rfl
        have zq1 : ∀ w', Below w8.heap.size w8 w' → w'.cell? ⟨q', 1, none⟩ = some (.int .i64 (if kq then 1 else 0)) := fun w' hw => (j2.below hw).cell 1 rfl
        have zq2 : ∀ w', Below w8.heap.size w8 w' → w'.cell? ⟨q', 2, none⟩ = some (.int .i64 tu) := fun w' hw => (j2.below hw).cell 2 rfl
        obtain ⟨B, -, -, hLB, -⟩ := hb8.pr.tape hb8.lt
        obtain ⟨C, -, -, hLC, -⟩ := hb8.pr.doc hb8.lt
        obtain ⟨xa, xc, zrow⟩ := RLive.rowc hLC kq
        have hjb := jb_eq hb8.kp kq
        obtain ⟨n, hn⟩ : ∃ n : Nat, Hid ((M4.get kq).length = n) := ⟨_, hide rfl⟩
        rw [hn.out] at hjb
        simp only [hn.out] at zrow
        have cBy := fun w' (hw : Below w8.heap.size w8 w') => jbytes_any ⟨q, p, (if kq then 1 else 0), tu, fs⟩ M4 B w' (j1.below hw) (hLB.below hw)
        have cTu := fun w' (hw : Below w8.heap.size w8 w') => (jturn_any ⟨q, p, (if kq then 1 else 0), tu, fs⟩ w' (j1.below hw)).mono (fun e w'' (hz : _ ∧ w'' = w') => (⟨hz.1, by rw [hz.2]; exact Below.refl _ _⟩ : _ ∧ Below w'.heap.size w' w''))
        have cSu := fun w' (hw : Below w8.heap.size w8 w') => jsure_any ⟨q, p, (if kq then 1 else 0), tu, fs⟩ M4 B w' (j1.below hw) (hLB.below hw)
        have cOn := fun w' (hw : Below w8.heap.size w8 w') => jon_any ⟨q, p, (if kq then 1 else 0), tu, fs⟩ M4 B w' (j1.below hw) (hLB.below hw)
        have cXo := fun w' (hw : Below w8.heap.size w8 w') => xon_any ⟨q', r, (if kq then 1 else 0), tu, fs⟩ M4 C w' (j2.below hw) (hLC.below hw)
        have cXs := fun w' (hw : Below w8.heap.size w8 w') => xsure_any q' r kq tu fs M4 C w' (j2.below hw) (hLC.below hw)
        unfold Mt.allSure at cXs
        simp only [hjb, hn.out] at cBy cSu cXs
        obtain ⟨sb, hsb⟩ : ∃ sb, Hid (decide (M4.sureOf (if kq then 1 else 0) = (n : Int)) = sb) := ⟨_, hide rfl⟩
        obtain ⟨ob, hob⟩ : ∃ ob, Hid (M4.jon fs = ob) := ⟨_, hide rfl⟩
        simp only [hsb.out] at cSu cXs
        simp only [hob.out] at cOn cXo
        unfold jptr at cBy cTu cSu cOn cXo
        simp only at cBy cTu cSu cOn cXo
        clear hb8 hb5 hLB hLC hjb j1 j2 hsb hob hn
        cases kq
        · simp only [Bool.false_eq_true, if_false] at zq1 zrow
          refine hs_begin (S := (Below w8.heap.size w8)) 70 rfl (by kernel_rfl) ?_
          rw [hw8]
          clear hw8
          have hS : (Below w8.heap.size w8) w8 := Below.refl _ _
          refine hs_take (i := 0) (d := some 55) (v := ?_) rfl (by kernel_rfl) (by kernel_rfl) (by kernel_rfl) (by rfl) ?_ hS rfl ?_
          rotate_left
          · intro w' hw
            go_simp
            try with_reducible rfl
          simp only [Act.put, List.setIfInBounds_toArray, List.set_cons_zero, List.set_cons_succ]
          refine hs_take (i := 1) (d := some 56) (v := ?_) rfl (by kernel_rfl) (by kernel_rfl) (by kernel_rfl) (by rfl) ?_ hS rfl ?_
          rotate_left
          · intro w' hw
            go_simp
            try with_reducible rfl
          simp only [Act.put, List.setIfInBounds_toArray, List.set_cons_zero, List.set_cons_succ]
          refine hs_take (i := 2) (d := some 57) (v := ?_) rfl (by kernel_rfl) (by kernel_rfl) (by kernel_rfl) (by rfl) ?_ hS rfl ?_
          rotate_left
          · intro w' hw
            go_simp
            try with_reducible rfl
          simp only [Act.put, List.setIfInBounds_toArray, List.set_cons_zero, List.set_cons_succ]
          refine hs_take (i := 3) (d := some 58) (v := ?_) rfl (by kernel_rfl) (by kernel_rfl) (by kernel_rfl) (by rfl) ?_ hS rfl ?_
          rotate_left
          · intro w' hw
            have hc := z3 w' hw
            go_simp
            try with_reducible rfl
          simp only [Act.put, List.setIfInBounds_toArray, List.set_cons_zero, List.set_cons_succ]
          refine hs_take (i := 4) (d := some 59) (v := ?_) rfl (by kernel_rfl) (by kernel_rfl) (by kernel_rfl) (by rfl) ?_ hS rfl ?_
          rotate_left
          · intro w' hw
            go_simp
            try with_reducible rfl
          simp only [Act.put, List.setIfInBounds_toArray, List.set_cons_zero, List.set_cons_succ]
          refine hs_take (i := 5) (d := some 60) (v := ?_) rfl (by kernel_rfl) (by kernel_rfl) (by kernel_rfl) (by rfl) ?_ hS rfl ?_
          rotate_left
          · intro w' hw
            go_simp
            try with_reducible rfl
          simp only [Act.put, List.setIfInBounds_toArray, List.set_cons_zero, List.set_cons_succ]
          refine hs_take (i := 6) (d := some 61) (v := ?_) rfl (by kernel_rfl) (by kernel_rfl) (by kernel_rfl) (by rfl) ?_ hS rfl ?_
          rotate_left
          · intro w' hw
            go_simp
            try with_reducible rfl
          simp only [Act.put, List.setIfInBounds_toArray, List.set_cons_zero, List.set_cons_succ]
          refine hs_take (i := 7) (d := some 62) (v := ?_) rfl (by kernel_rfl) (by kernel_rfl) (by kernel_rfl) (by rfl) ?_ hS rfl ?_
          rotate_left
          · intro w' hw
            go_simp
            try with_reducible rfl
          simp only [Act.put, List.setIfInBounds_toArray, List.set_cons_zero, List.set_cons_succ]
          refine hs_take (i := 8) (d := some 63) (v := ?_) rfl (by kernel_rfl) (by kernel_rfl) (by kernel_rfl) (by rfl) ?_ hS rfl ?_
          rotate_left
          · intro w' hw
            go_simp
            try with_reducible rfl
          simp only [Act.put, List.setIfInBounds_toArray, List.set_cons_zero, List.set_cons_succ]
          refine hs_take (i := 9) (d := some 64) (v := ?_) rfl (by kernel_rfl) (by kernel_rfl) (by kernel_rfl) (by rfl) ?_ hS rfl ?_
          rotate_left
          · intro w' hw
            have hc := z1 w' hw
            go_simp
            try with_reducible rfl
          simp only [Act.put, List.setIfInBounds_toArray, List.set_cons_zero, List.set_cons_succ]
          refine hs_take (i := 11) (d := some 66) (v := ?_) rfl (by kernel_rfl) (by kernel_rfl) (by kernel_rfl) (by rfl) ?_ hS rfl ?_
          rotate_left
          · intro w' hw
            go_simp
            try with_reducible rfl
          simp only [Act.put, List.setIfInBounds_toArray, List.set_cons_zero, List.set_cons_succ]
          refine hs_take (i := 12) (d := some 67) (v := ?_) rfl (by kernel_rfl) (by kernel_rfl) (by kernel_rfl) (by rfl) ?_ hS rfl ?_
          rotate_left
          · intro w' hw
            go_simp
            try with_reducible rfl
          simp only [Act.put, List.setIfInBounds_toArray, List.set_cons_zero, List.set_cons_succ]
          refine hs_take (i := 13) (d := some 68) (v := ?_) rfl (by kernel_rfl) (by kernel_rfl) (by kernel_rfl) (by rfl) ?_ hS rfl ?_
          rotate_left
          · intro w' hw
            go_simp
            try with_reducible rfl
          simp only [Act.put, List.setIfInBounds_toArray, List.set_cons_zero, List.set_cons_succ]
          refine hs_take (i := 14) (d := some 69) (v := ?_) rfl (by kernel_rfl) (by kernel_rfl) (by kernel_rfl) (by rfl) ?_ hS rfl ?_
          rotate_left
          · intro w' hw
            have hc := z2 w' hw
            go_simp
            try with_reducible rfl
          simp only [Act.put, List.setIfInBounds_toArray, List.set_cons_zero, List.set_cons_succ]
          refine hs_take (i := 15) (d := some 70) (v := ?_) rfl (by kernel_rfl) (by kernel_rfl) (by kernel_rfl) (by rfl) ?_ hS rfl ?_
          rotate_left
          · intro w' hw
            go_simp
            try with_reducible rfl
          simp only [Act.put, List.setIfInBounds_toArray, List.set_cons_zero, List.set_cons_succ]
          refine hs_take (i := 16) (d := some 71) (v := ?_) rfl (by kernel_rfl) (by kernel_rfl) (by kernel_rfl) (by rfl) ?_ hS rfl ?_
          rotate_left
          · intro w' hw
            go_simp
            try with_reducible rfl
          simp only [Act.put, List.setIfInBounds_toArray, List.set_cons_zero, List.set_cons_succ]
          refine hs_take (i := 17) (d := some 72) (v := ?_) rfl (by kernel_rfl) (by kernel_rfl) (by kernel_rfl) (by rfl) ?_ hS rfl ?_
          rotate_left
          · intro w' hw
            go_simp
            try with_reducible rfl
          simp only [Act.put, List.setIfInBounds_toArray, List.set_cons_zero, List.set_cons_succ]
          refine hs_take (i := 18) (d := some 73) (v := ?_) rfl (by kernel_rfl) (by kernel_rfl) (by kernel_rfl) (by rfl) ?_ hS rfl ?_
          rotate_left
          · intro w' hw
            have hc := z3 w' hw
            go_simp
            try with_reducible rfl
          simp only [Act.put, List.setIfInBounds_toArray, List.set_cons_zero, List.set_cons_succ]
          refine hs_take (i := 19) (d := some 74) (v := ?_) rfl (by kernel_rfl) (by kernel_rfl) (by kernel_rfl) (by rfl) ?_ hS rfl ?_
          rotate_left
          · intro w' hw
            go_simp
            try with_reducible rfl
          simp only [Act.put, List.setIfInBounds_toArray, List.set_cons_zero, List.set_cons_succ]
          refine hs_take (i := 20) (d := some 75) (v := ?_) rfl (by kernel_rfl) (by kernel_rfl) (by kernel_rfl) (by rfl) ?_ hS rfl ?_
          rotate_left
          · intro w' hw
            go_simp
            try with_reducible rfl
          simp only [Act.put, List.setIfInBounds_toArray, List.set_cons_zero, List.set_cons_succ]
          refine hs_take (i := 21) (d := some 76) (v := ?_) rfl (by kernel_rfl) (by kernel_rfl) (by kernel_rfl) (by rfl) ?_ hS rfl ?_
          rotate_left
          · intro w' hw
            have hc := zq1 w' hw
            go_simp
            try with_reducible rfl
          simp only [Act.put, List.setIfInBounds_toArray, List.set_cons_zero, List.set_cons_succ]
          refine hs_take (i := 22) (d := some 77) (v := ?_) rfl (by kernel_rfl) (by kernel_rfl) (by kernel_rfl) (by rfl) ?_ hS rfl ?_
          rotate_left
          · intro w' hw
            go_simp
            try with_reducible rfl
          simp only [Act.put, List.setIfInBounds_toArray, List.set_cons_zero, List.set_cons_succ]
          refine hs_take (i := 23) (d := some 78) (v := ?_) rfl (by kernel_rfl) (by kernel_rfl) (by kernel_rfl) (by rfl) ?_ hS rfl ?_
          rotate_left
          · intro w' hw
            go_simp
            try with_reducible rfl
          simp only [Act.put, List.setIfInBounds_toArray, List.set_cons_zero, List.set_cons_succ]
          refine hs_take (i := 24) (d := some 79) (v := ?_) rfl (by kernel_rfl) (by kernel_rfl) (by kernel_rfl) (by rfl) ?_ hS rfl ?_
          rotate_left
          · intro w' hw
            go_simp
            try with_reducible rfl
          simp only [Act.put, List.setIfInBounds_toArray, List.set_cons_zero, List.set_cons_succ]
          refine hs_take (i := 25) (d := some 80) (v := ?_) rfl (by kernel_rfl) (by kernel_rfl) (by kernel_rfl) (by rfl) ?_ hS rfl ?_
          rotate_left
          · intro w' hw
            have hc := zrow w' hw
            go_simp
            try with_reducible rfl
          simp only [Act.put, List.setIfInBounds_toArray, List.set_cons_zero, List.set_cons_succ]
          refine hs_take (i := 26) (d := some 81) (v := ?_) rfl (by kernel_rfl) (by kernel_rfl) (by kernel_rfl) (by rfl) ?_ hS rfl ?_
          rotate_left
          · intro w' hw
            go_simp
            try with_reducible rfl
          simp only [Act.put, List.setIfInBounds_toArray, List.set_cons_zero, List.set_cons_succ]
          refine hs_call (i := 10) (d := some 65) rfl (by kernel_rfl) (by rfl) (by go_simp; first | done | exact ⟨rfl, rfl⟩ | with_reducible rfl) rfl ?_
          refine (cBy _ hS).mono ?_
          rintro e' wN10 ⟨rfl, hbN⟩
          have hS : (Below w8.heap.size w8) wN10 := hS.trans (hbN.mono hS.size)
          refine ⟨_, rfl, hS, ?_⟩
          simp only [Act.put, List.setIfInBounds_toArray, List.set_cons_zero, List.set_cons_succ]
          refine hs_take (i := 27) (d := some 82) (v := .bool false) rfl (by kernel_rfl) (by kernel_rfl) (by kernel_rfl) (by rfl) (fun w' hw => by go_simp) hS rfl ?_
          simp only [Act.put, List.setIfInBounds_toArray, List.set_cons_zero, List.set_cons_succ]
          refine hs_take (i := 28) (d := some 83) (v := ?_) rfl (by kernel_rfl) (by kernel_rfl) (by kernel_rfl) (by rfl) ?_ hS rfl ?_
          rotate_left
          · intro w' hw
            go_simp
            try with_reducible rfl
          simp only [Act.put, List.setIfInBounds_toArray, List.set_cons_zero, List.set_cons_succ]
          refine hs_take (i := 29) (d := some 84) (v := ?_) rfl (by kernel_rfl) (by kernel_rfl) (by kernel_rfl) (by rfl) ?_ hS rfl ?_
          rotate_left
          · intro w' hw
            go_simp
            try with_reducible rfl
          simp only [Act.put, List.setIfInBounds_toArray, List.set_cons_zero, List.set_cons_succ]
          refine hs_take (i := 30) (d := some 85) (v := ?_) rfl (by kernel_rfl) (by kernel_rfl) (by kernel_rfl) (by rfl) ?_ hS rfl ?_
          rotate_left
          · intro w' hw
            go_simp
            try with_reducible rfl
          simp only [Act.put, List.setIfInBounds_toArray, List.set_cons_zero, List.set_cons_succ]
          refine hs_take (i := 31) (d := some 86) (v := ?_) rfl (by kernel_rfl) (by kernel_rfl) (by kernel_rfl) (by rfl) ?_ hS rfl ?_
          rotate_left
          · intro w' hw
            go_simp
            try with_reducible rfl
          simp only [Act.put, List.setIfInBounds_toArray, List.set_cons_zero, List.set_cons_succ]
          refine hs_take (i := 32) (d := some 87) (v := ?_) rfl (by kernel_rfl) (by kernel_rfl) (by kernel_rfl) (by rfl) ?_ hS rfl ?_
          rotate_left
          · intro w' hw
            have hc := z1 w' hw
            go_simp
            try with_reducible rfl
          simp only [Act.put, List.setIfInBounds_toArray, List.set_cons_zero, List.set_cons_succ]
          refine hs_take (i := 34) (d := some 89) (v := ?_) rfl (by kernel_rfl) (by kernel_rfl) (by kernel_rfl) (by rfl) ?_ hS rfl ?_
          rotate_left
          · intro w' hw
            go_simp
            try with_reducible rfl
          simp only [Act.put, List.setIfInBounds_toArray, List.set_cons_zero, List.set_cons_succ]
          refine hs_take (i := 35) (d := some 90) (v := ?_) rfl (by kernel_rfl) (by kernel_rfl) (by kernel_rfl) (by rfl) ?_ hS rfl ?_
          rotate_left
          · intro w' hw
            go_simp
            try with_reducible rfl
          simp only [Act.put, List.setIfInBounds_toArray, List.set_cons_zero, List.set_cons_succ]
          refine hs_take (i := 36) (d := some 91) (v := ?_) rfl (by kernel_rfl) (by kernel_rfl) (by kernel_rfl) (by rfl) ?_ hS rfl ?_
          rotate_left
          · intro w' hw
            go_simp
            try with_reducible rfl
          simp only [Act.put, List.setIfInBounds_toArray, List.set_cons_zero, List.set_cons_succ]
          refine hs_take (i := 37) (d := some 92) (v := ?_) rfl (by kernel_rfl) (by kernel_rfl) (by kernel_rfl) (by rfl) ?_ hS rfl ?_
          rotate_left
          · intro w' hw
            have hc := z3 w' hw
            go_simp
            try with_reducible rfl
          simp only [Act.put, List.setIfInBounds_toArray, List.set_cons_zero, List.set_cons_succ]
          refine hs_take (i := 38) (d := some 93) (v := ?_) rfl (by kernel_rfl) (by kernel_rfl) (by kernel_rfl) (by rfl) ?_ hS rfl ?_
          rotate_left
          · intro w' hw
            go_simp
            try with_reducible rfl
          simp only [Act.put, List.setIfInBounds_toArray, List.set_cons_zero, List.set_cons_succ]
          refine hs_take (i := 39) (d := some 94) (v := ?_) rfl (by kernel_rfl) (by kernel_rfl) (by kernel_rfl) (by rfl) ?_ hS rfl ?_
          rotate_left
          · intro w' hw
            go_simp
            try with_reducible rfl
          simp only [Act.put, List.setIfInBounds_toArray, List.set_cons_zero, List.set_cons_succ]
          refine hs_take (i := 40) (d := some 95) (v := ?_) rfl (by kernel_rfl) (by kernel_rfl) (by kernel_rfl) (by rfl) ?_ hS rfl ?_
          rotate_left
          · intro w' hw
            have hc := zq2 w' hw
            go_simp
            try with_reducible rfl
          simp only [Act.put, List.setIfInBounds_toArray, List.set_cons_zero, List.set_cons_succ]
          refine hs_call (i := 33) (d := some 88) rfl (by kernel_rfl) (by rfl) (by go_simp; first | done | exact ⟨rfl, rfl⟩ | with_reducible rfl) rfl ?_
          refine (cTu _ hS).mono ?_
          rintro e' wN33 ⟨rfl, hbN⟩
          have hS : (Below w8.heap.size w8) wN33 := hS.trans (hbN.mono hS.size)
          refine ⟨_, rfl, hS, ?_⟩
          simp only [Act.put, List.setIfInBounds_toArray, List.set_cons_zero, List.set_cons_succ]
          refine hs_take (i := 41) (d := some 96) (v := .bool false) rfl (by kernel_rfl) (by kernel_rfl) (by kernel_rfl) (by rfl) (fun w' hw => by go_simp) hS rfl ?_
          simp only [Act.put, List.setIfInBounds_toArray, List.set_cons_zero, List.set_cons_succ]
          refine hs_take (i := 42) (d := some 97) (v := ?_) rfl (by kernel_rfl) (by kernel_rfl) (by kernel_rfl) (by rfl) ?_ hS rfl ?_
          rotate_left
          · intro w' hw
            go_simp
            try with_reducible rfl
          simp only [Act.put, List.setIfInBounds_toArray, List.set_cons_zero, List.set_cons_succ]
          refine hs_take (i := 43) (d := some 98) (v := ?_) rfl (by kernel_rfl) (by kernel_rfl) (by kernel_rfl) (by rfl) ?_ hS rfl ?_
          rotate_left
          · intro w' hw
            go_simp
            try with_reducible rfl
          simp only [Act.put, List.setIfInBounds_toArray, List.set_cons_zero, List.set_cons_succ]
          refine hs_take (i := 44) (d := some 99) (v := ?_) rfl (by kernel_rfl) (by kernel_rfl) (by kernel_rfl) (by rfl) ?_ hS rfl ?_
          rotate_left
          · intro w' hw
            go_simp
            try with_reducible rfl
          simp only [Act.put, List.setIfInBounds_toArray, List.set_cons_zero, List.set_cons_succ]
          refine hs_take (i := 45) (d := some 100) (v := ?_) rfl (by kernel_rfl) (by kernel_rfl) (by kernel_rfl) (by rfl) ?_ hS rfl ?_
          rotate_left
          · intro w' hw
            go_simp
            try with_reducible rfl
          simp only [Act.put, List.setIfInBounds_toArray, List.set_cons_zero, List.set_cons_succ]
          refine hs_take (i := 46) (d := some 101) (v := ?_) rfl (by kernel_rfl) (by kernel_rfl) (by kernel_rfl) (by rfl) ?_ hS rfl ?_
          rotate_left
          · intro w' hw
            go_simp
            try with_reducible rfl
          simp only [Act.put, List.setIfInBounds_toArray, List.set_cons_zero, List.set_cons_succ]
          refine hs_take (i := 47) (d := some 102) (v := ?_) rfl (by kernel_rfl) (by kernel_rfl) (by kernel_rfl) (by rfl) ?_ hS rfl ?_
          rotate_left
          · intro w' hw
            have hc := z1 w' hw
            go_simp
            try with_reducible rfl
          simp only [Act.put, List.setIfInBounds_toArray, List.set_cons_zero, List.set_cons_succ]
          refine hs_take (i := 49) (d := some 104) (v := ?_) rfl (by kernel_rfl) (by kernel_rfl) (by kernel_rfl) (by rfl) ?_ hS rfl ?_
          rotate_left
          · intro w' hw
            go_simp
            try with_reducible rfl
          simp only [Act.put, List.setIfInBounds_toArray, List.set_cons_zero, List.set_cons_succ]
          refine hs_take (i := 50) (d := some 105) (v := ?_) rfl (by kernel_rfl) (by kernel_rfl) (by kernel_rfl) (by rfl) ?_ hS rfl ?_
          rotate_left
          · intro w' hw
            go_simp
            try with_reducible rfl
          simp only [Act.put, List.setIfInBounds_toArray, List.set_cons_zero, List.set_cons_succ]
          refine hs_take (i := 51) (d := some 106) (v := ?_) rfl (by kernel_rfl) (by kernel_rfl) (by kernel_rfl) (by rfl) ?_ hS rfl ?_
          rotate_left
          · intro w' hw
            go_simp
            try with_reducible rfl
          simp only [Act.put, List.setIfInBounds_toArray, List.set_cons_zero, List.set_cons_succ]
          refine hs_take (i := 52) (d := some 107) (v := ?_) rfl (by kernel_rfl) (by kernel_rfl) (by kernel_rfl) (by rfl) ?_ hS rfl ?_
          rotate_left
          · intro w' hw
            have hc := z3 w' hw
            go_simp
            try with_reducible rfl
          simp only [Act.put, List.setIfInBounds_toArray, List.set_cons_zero, List.set_cons_succ]
          refine hs_call (i := 48) (d := some 103) rfl (by kernel_rfl) (by rfl) (by go_simp; first | done | exact ⟨rfl, rfl⟩ | with_reducible rfl) rfl ?_
          refine (cSu _ hS).mono ?_
          rintro e' wN48 ⟨rfl, hbN⟩
          have hS : (Below w8.heap.size w8) wN48 := hS.trans (hbN.mono hS.size)
          refine ⟨_, rfl, hS, ?_⟩
          simp only [Act.put, List.setIfInBounds_toArray, List.set_cons_zero, List.set_cons_succ]
          refine hs_call (i := 53) (d := some 108) rfl (by kernel_rfl) (by rfl) (by go_simp; first | done | exact ⟨rfl, rfl⟩ | with_reducible rfl) rfl ?_
          refine (cXs _ hS).mono ?_
          rintro e' wN53 ⟨rfl, hbN⟩
          have hS : (Below w8.heap.size w8) wN53 := hS.trans (hbN.mono hS.size)
          refine ⟨_, rfl, hS, ?_⟩
          simp only [Act.put, List.setIfInBounds_toArray, List.set_cons_zero, List.set_cons_succ]
          refine hs_take (i := 54) (d := some 109) (v := .bool false) rfl (by kernel_rfl) (by kernel_rfl) (by kernel_rfl) (by rfl) (fun w' hw => by cases sb <;> go_simp) hS rfl ?_
          simp only [Act.put, List.setIfInBounds_toArray, List.set_cons_zero, List.set_cons_succ]
          refine hs_take (i := 55) (d := some 110) (v := ?_) rfl (by kernel_rfl) (by kernel_rfl) (by kernel_rfl) (by rfl) ?_ hS rfl ?_
          rotate_left
          · intro w' hw
            go_simp
            try with_reducible rfl
          simp only [Act.put, List.setIfInBounds_toArray, List.set_cons_zero, List.set_cons_succ]
          refine hs_take (i := 56) (d := some 111) (v := ?_) rfl (by kernel_rfl) (by kernel_rfl) (by kernel_rfl) (by rfl) ?_ hS rfl ?_
          rotate_left
          · intro w' hw
            go_simp
            try with_reducible rfl
          simp only [Act.put, List.setIfInBounds_toArray, List.set_cons_zero, List.set_cons_succ]
          refine hs_take (i := 57) (d := some 112) (v := ?_) rfl (by kernel_rfl) (by kernel_rfl) (by kernel_rfl) (by rfl) ?_ hS rfl ?_
          rotate_left
          · intro w' hw
            go_simp
            try with_reducible rfl
          simp only [Act.put, List.setIfInBounds_toArray, List.set_cons_zero, List.set_cons_succ]
          refine hs_take (i := 58) (d := some 113) (v := ?_) rfl (by kernel_rfl) (by kernel_rfl) (by kernel_rfl) (by rfl) ?_ hS rfl ?_
          rotate_left
          · intro w' hw
            go_simp
            try with_reducible rfl
          simp only [Act.put, List.setIfInBounds_toArray, List.set_cons_zero, List.set_cons_succ]
          refine hs_take (i := 59) (d := some 114) (v := ?_) rfl (by kernel_rfl) (by kernel_rfl) (by kernel_rfl) (by rfl) ?_ hS rfl ?_
          rotate_left
          · intro w' hw
            go_simp
            try with_reducible rfl
          simp only [Act.put, List.setIfInBounds_toArray, List.set_cons_zero, List.set_cons_succ]
          refine hs_take (i := 60) (d := some 115) (v := ?_) rfl (by kernel_rfl) (by kernel_rfl) (by kernel_rfl) (by rfl) ?_ hS rfl ?_
          rotate_left
          · intro w' hw
            have hc := z1 w' hw
            go_simp
            try with_reducible rfl
          simp only [Act.put, List.setIfInBounds_toArray, List.set_cons_zero, List.set_cons_succ]
          refine hs_take (i := 62) (d := some 117) (v := ?_) rfl (by kernel_rfl) (by kernel_rfl) (by kernel_rfl) (by rfl) ?_ hS rfl ?_
          rotate_left
          · intro w' hw
            go_simp
            try with_reducible rfl
          simp only [Act.put, List.setIfInBounds_toArray, List.set_cons_zero, List.set_cons_succ]
          refine hs_take (i := 63) (d := some 118) (v := ?_) rfl (by kernel_rfl) (by kernel_rfl) (by kernel_rfl) (by rfl) ?_ hS rfl ?_
          rotate_left
          · intro w' hw
            go_simp
            try with_reducible rfl
          simp only [Act.put, List.setIfInBounds_toArray, List.set_cons_zero, List.set_cons_succ]
          refine hs_take (i := 64) (d := some 119) (v := ?_) rfl (by kernel_rfl) (by kernel_rfl) (by kernel_rfl) (by rfl) ?_ hS rfl ?_
          rotate_left
          · intro w' hw
            go_simp
            try with_reducible rfl
          simp only [Act.put, List.setIfInBounds_toArray, List.set_cons_zero, List.set_cons_succ]
          refine hs_take (i := 65) (d := some 120) (v := ?_) rfl (by kernel_rfl) (by kernel_rfl) (by kernel_rfl) (by rfl) ?_ hS rfl ?_
          rotate_left
          · intro w' hw
            have hc := z3 w' hw
            go_simp
            try with_reducible rfl
          simp only [Act.put, List.setIfInBounds_toArray, List.set_cons_zero, List.set_cons_succ]
          refine hs_call (i := 61) (d := some 116) rfl (by kernel_rfl) (by rfl) (by go_simp; first | done | exact ⟨rfl, rfl⟩ | with_reducible rfl) rfl ?_
          refine (cOn _ hS).mono ?_
          rintro e' wN61 ⟨rfl, hbN⟩
          have hS : (Below w8.heap.size w8) wN61 := hS.trans (hbN.mono hS.size)
          refine ⟨_, rfl, hS, ?_⟩
          simp only [Act.put, List.setIfInBounds_toArray, List.set_cons_zero, List.set_cons_succ]
          refine hs_call (i := 66) (d := some 121) rfl (by kernel_rfl) (by rfl) (by go_simp; first | done | exact ⟨rfl, rfl⟩ | with_reducible rfl) rfl ?_
          refine (cXo _ hS).mono ?_
          rintro e' wN66 ⟨rfl, hbN⟩
          have hS : (Below w8.heap.size w8) wN66 := hS.trans (hbN.mono hS.size)
          refine ⟨_, rfl, hS, ?_⟩
          simp only [Act.put, List.setIfInBounds_toArray, List.set_cons_zero, List.set_cons_succ]
          refine hs_take (i := 67) (d := some 122) (v := .bool false) rfl (by kernel_rfl) (by kernel_rfl) (by kernel_rfl) (by rfl) (fun w' hw => by cases ob <;> go_simp) hS rfl ?_
          simp only [Act.put, List.setIfInBounds_toArray, List.set_cons_zero, List.set_cons_succ]
          refine hs_take (i := 68) (d := some 123) (v := ?_) rfl (by kernel_rfl) (by kernel_rfl) (by kernel_rfl) (by rfl) ?_ hS rfl ?_
          rotate_left
          · intro w' hw
            go_simp
            try with_reducible rfl
          simp only [Act.put, List.setIfInBounds_toArray, List.set_cons_zero, List.set_cons_succ]
          refine hs_take (i := 69) (d := some 124) (v := ?_) rfl (by kernel_rfl) (by kernel_rfl) (by kernel_rfl) (by rfl) ?_ hS rfl ?_
          rotate_left
          · intro w' hw
            go_simp
            try with_reducible rfl
          simp only [Act.put, List.setIfInBounds_toArray, List.set_cons_zero, List.set_cons_succ]
          refine hs_done (by kernel_rfl) ?_
          have hBn := hB45.trans (hS.mono hB45.size)
          have hbn := HB8.out.below hS
          clear hS
          go_wp2_with fail
          go_roundw
          case rel => exact ⟨k + 1, _, _, _, _, by omega, by go_num, hbn, hBn⟩
          case measure => simp [intOf]; omega
        · simp only [if_true] at zq1 zrow
          refine hs_begin (S := (Below w8.heap.size w8)) 70 rfl (by kernel_rfl) ?_
          rw [hw8]
          clear hw8
          have hS : (Below w8.heap.size w8) w8 := Below.refl _ _
          refine hs_take (i := 0) (d := some 55) (v := ?_) rfl (by kernel_rfl) (by kernel_rfl) (by kernel_rfl) (by rfl) ?_ hS rfl ?_
          rotate_left
          · intro w' hw
            go_simp
            try with_reducible rfl
          simp only [Act.put, List.setIfInBounds_toArray, List.set_cons_zero, List.set_cons_succ]
          refine hs_take (i := 1) (d := some 56) (v := ?_) rfl (by kernel_rfl) (by kernel_rfl) (by kernel_rfl) (by rfl) ?_ hS rfl ?_
          rotate_left
          · intro w' hw
            go_simp
            try with_reducible rfl
          simp only [Act.put, List.setIfInBounds_toArray, List.set_cons_zero, List.set_cons_succ]
          refine hs_take (i := 2) (d := some 57) (v := ?_) rfl (by kernel_rfl) (by kernel_rfl) (by kernel_rfl) (by rfl) ?_ hS rfl ?_
          rotate_left
          · intro w' hw
            go_simp
            try with_reducible rfl
          simp only [Act.put, List.setIfInBounds_toArray, List.set_cons_zero, List.set_cons_succ]
          refine hs_take (i := 3) (d := some 58) (v := ?_) rfl (by kernel_rfl) (by kernel_rfl) (by kernel_rfl) (by rfl) ?_ hS rfl ?_
          rotate_left
          · intro w' hw
            have hc := z3 w' hw
            go_simp
            try with_reducible rfl
          simp only [Act.put, List.setIfInBounds_toArray, List.set_cons_zero, List.set_cons_succ]
          refine hs_take (i := 4) (d := some 59) (v := ?_) rfl (by kernel_rfl) (by kernel_rfl) (by kernel_rfl) (by rfl) ?_ hS rfl ?_
          rotate_left
          · intro w' hw
            go_simp
            try with_reducible rfl
          simp only [Act.put, List.setIfInBounds_toArray, List.set_cons_zero, List.set_cons_succ]
          refine hs_take (i := 5) (d := some 60) (v := ?_) rfl (by kernel_rfl) (by kernel_rfl) (by kernel_rfl) (by rfl) ?_ hS rfl ?_
          rotate_left
          · intro w' hw
            go_simp
            try with_reducible rfl
          simp only [Act.put, List.setIfInBounds_toArray, List.set_cons_zero, List.set_cons_succ]
          refine hs_take (i := 6) (d := some 61) (v := ?_) rfl (by kernel_rfl) (by kernel_rfl) (by kernel_rfl) (by rfl) ?_ hS rfl ?_
          rotate_left
          · intro w' hw
            go_simp
            try with_reducible rfl
          simp only [Act.put, List.setIfInBounds_toArray, List.set_cons_zero, List.set_cons_succ]
          refine hs_take (i := 7) (d := some 62) (v := ?_) rfl (by kernel_rfl) (by kernel_rfl) (by kernel_rfl) (by rfl) ?_ hS rfl ?_
          rotate_left
          · intro w' hw
            go_simp
            try with_reducible rfl
          simp only [Act.put, List.setIfInBounds_toArray, List.set_cons_zero, List.set_cons_succ]
          refine hs_take (i := 8) (d := some 63) (v := ?_) rfl (by kernel_rfl) (by kernel_rfl) (by kernel_rfl) (by rfl) ?_ hS rfl ?_
          rotate_left
          · intro w' hw
            go_simp
            try with_reducible rfl
          simp only [Act.put, List.setIfInBounds_toArray, List.set_cons_zero, List.set_cons_succ]
          refine hs_take (i := 9) (d := some 64) (v := ?_) rfl (by kernel_rfl) (by kernel_rfl) (by kernel_rfl) (by rfl) ?_ hS rfl ?_
          rotate_left
          · intro w' hw
            have hc := z1 w' hw
            go_simp
            try with_reducible rfl
          simp only [Act.put, List.setIfInBounds_toArray, List.set_cons_zero, List.set_cons_succ]
          refine hs_take (i := 11) (d := some 66) (v := ?_) rfl (by kernel_rfl) (by kernel_rfl) (by kernel_rfl) (by rfl) ?_ hS rfl ?_
          rotate_left
          · intro w' hw
            go_simp
            try with_reducible rfl
          simp only [Act.put, List.setIfInBounds_toArray, List.set_cons_zero, List.set_cons_succ]
          refine hs_take (i := 12) (d := some 67) (v := ?_) rfl (by kernel_rfl) (by kernel_rfl) (by kernel_rfl) (by rfl) ?_ hS rfl ?_
          rotate_left
          · intro w' hw
            go_simp
            try with_reducible rfl
          simp only [Act.put, List.setIfInBounds_toArray, List.set_cons_zero, List.set_cons_succ]
          refine hs_take (i := 13) (d := some 68) (v := ?_) rfl (by kernel_rfl) (by kernel_rfl) (by kernel_rfl) (by rfl) ?_ hS rfl ?_
          rotate_left
          · intro w' hw
            go_simp
            try with_reducible rfl
          simp only [Act.put, List.setIfInBounds_toArray, List.set_cons_zero, List.set_cons_succ]
          refine hs_take (i := 14) (d := some 69) (v := ?_) rfl (by kernel_rfl) (by kernel_rfl) (by kernel_rfl) (by rfl) ?_ hS rfl ?_
          rotate_left
          · intro w' hw
            have hc := z2 w' hw
            go_simp
            try with_reducible rfl
          simp only [Act.put, List.setIfInBounds_toArray, List.set_cons_zero, List.set_cons_succ]
          refine hs_take (i := 15) (d := some 70) (v := ?_) rfl (by kernel_rfl) (by kernel_rfl) (by kernel_rfl) (by rfl) ?_ hS rfl ?_
          rotate_left
          · intro w' hw
            go_simp
            try with_reducible rfl
          simp only [Act.put, List.setIfInBounds_toArray, List.set_cons_zero, List.set_cons_succ]
          refine hs_take (i := 16) (d := some 71) (v := ?_) rfl (by kernel_rfl) (by kernel_rfl) (by kernel_rfl) (by rfl) ?_ hS rfl ?_
          rotate_left
          · intro w' hw
            go_simp
            try with_reducible rfl
          simp only [Act.put, List.setIfInBounds_toArray, List.set_cons_zero, List.set_cons_succ]
          refine hs_take (i := 17) (d := some 72) (v := ?_) rfl (by kernel_rfl) (by kernel_rfl) (by kernel_rfl) (by rfl) ?_ hS rfl ?_
          rotate_left
          · intro w' hw
            go_simp
            try with_reducible rfl
          simp only [Act.put, List.setIfInBounds_toArray, List.set_cons_zero, List.set_cons_succ]
          refine hs_take (i := 18) (d := some 73) (v := ?_) rfl (by kernel_rfl) (by kernel_rfl) (by kernel_rfl) (by rfl) ?_ hS rfl ?_
          rotate_left
          · intro w' hw
            have hc := z3 w' hw
            go_simp
            try with_reducible rfl
          simp only [Act.put, List.setIfInBounds_toArray, List.set_cons_zero, List.set_cons_succ]
          refine hs_take (i := 19) (d := some 74) (v := ?_) rfl (by kernel_rfl) (by kernel_rfl) (by kernel_rfl) (by rfl) ?_ hS rfl ?_
          rotate_left
          · intro w' hw
            go_simp
            try with_reducible rfl
          simp only [Act.put, List.setIfInBounds_toArray, List.set_cons_zero, List.set_cons_succ]
          refine hs_take (i := 20) (d := some 75) (v := ?_) rfl (by kernel_rfl) (by kernel_rfl) (by kernel_rfl) (by rfl) ?_ hS rfl ?_
          rotate_left
          · intro w' hw
            go_simp
            try with_reducible rfl
          simp only [Act.put, List.setIfInBounds_toArray, List.set_cons_zero, List.set_cons_succ]
          refine hs_take (i := 21) (d := some 76) (v := ?_) rfl (by kernel_rfl) (by kernel_rfl) (by kernel_rfl) (by rfl) ?_ hS rfl ?_
          rotate_left
          · intro w' hw
            have hc := zq1 w' hw
            go_simp
            try with_reducible rfl
          simp only [Act.put, List.setIfInBounds_toArray, List.set_cons_zero, List.set_cons_succ]
          refine hs_take (i := 22) (d := some 77) (v := ?_) rfl (by kernel_rfl) (by kernel_rfl) (by kernel_rfl) (by rfl) ?_ hS rfl ?_
          rotate_left
          · intro w' hw
            go_simp
            try with_reducible rfl
          simp only [Act.put, List.setIfInBounds_toArray, List.set_cons_zero, List.set_cons_succ]
          refine hs_take (i := 23) (d := some 78) (v := ?_) rfl (by kernel_rfl) (by kernel_rfl) (by kernel_rfl) (by rfl) ?_ hS rfl ?_
          rotate_left
          · intro w' hw
            go_simp
            try with_reducible rfl
          simp only [Act.put, List.setIfInBounds_toArray, List.set_cons_zero, List.set_cons_succ]
          refine hs_take (i := 24) (d := some 79) (v := ?_) rfl (by kernel_rfl) (by kernel_rfl) (by kernel_rfl) (by rfl) ?_ hS rfl ?_
          rotate_left
          · intro w' hw
            go_simp
            try with_reducible rfl
          simp only [Act.put, List.setIfInBounds_toArray, List.set_cons_zero, List.set_cons_succ]
          refine hs_take (i := 25) (d := some 80) (v := ?_) rfl (by kernel_rfl) (by kernel_rfl) (by kernel_rfl) (by rfl) ?_ hS rfl ?_
          rotate_left
          · intro w' hw
            have hc := zrow w' hw
            go_simp
            try with_reducible rfl
          simp only [Act.put, List.setIfInBounds_toArray, List.set_cons_zero, List.set_cons_succ]
          refine hs_take (i := 26) (d := some 81) (v := ?_) rfl (by kernel_rfl) (by kernel_rfl) (by kernel_rfl) (by rfl) ?_ hS rfl ?_
          rotate_left
          · intro w' hw
            go_simp
            try with_reducible rfl
          simp only [Act.put, List.setIfInBounds_toArray, List.set_cons_zero, List.set_cons_succ]
          refine hs_call (i := 10) (d := some 65) rfl (by kernel_rfl) (by rfl) (by go_simp; first | done | exact ⟨rfl, rfl⟩ | with_reducible rfl) rfl ?_
          refine (cBy _ hS).mono ?_
          rintro e' wN10 ⟨rfl, hbN⟩
          have hS : (Below w8.heap.size w8) wN10 := hS.trans (hbN.mono hS.size)
          refine ⟨_, rfl, hS, ?_⟩
          simp only [Act.put, List.setIfInBounds_toArray, List.set_cons_zero, List.set_cons_succ]
          refine hs_take (i := 27) (d := some 82) (v := .bool false) rfl (by kernel_rfl) (by kernel_rfl) (by kernel_rfl) (by rfl) (fun w' hw => by go_simp) hS rfl ?_
          simp only [Act.put, List.setIfInBounds_toArray, List.set_cons_zero, List.set_cons_succ]
          refine hs_take (i := 28) (d := some 83) (v := ?_) rfl (by kernel_rfl) (by kernel_rfl) (by kernel_rfl) (by rfl) ?_ hS rfl ?_
          rotate_left
          · intro w' hw
            go_simp
            try with_reducible rfl
          simp only [Act.put, List.setIfInBounds_toArray, List.set_cons_zero, List.set_cons_succ]
          refine hs_take (i := 29) (d := some 84) (v := ?_) rfl (by kernel_rfl) (by kernel_rfl) (by kernel_rfl) (by rfl) ?_ hS rfl ?_
          rotate_left
          · intro w' hw
            go_simp
            try with_reducible rfl
          simp only [Act.put, List.setIfInBounds_toArray, List.set_cons_zero, List.set_cons_succ]
          refine hs_take (i := 30) (d := some 85) (v := ?_) rfl (by kernel_rfl) (by kernel_rfl) (by kernel_rfl) (by rfl) ?_ hS rfl ?_
          rotate_left
          · intro w' hw
            go_simp
            try with_reducible rfl
          simp only [Act.put, List.setIfInBounds_toArray, List.set_cons_zero, List.set_cons_succ]
          refine hs_take (i := 31) (d := some 86) (v := ?_) rfl (by kernel_rfl) (by kernel_rfl) (by kernel_rfl) (by rfl) ?_ hS rfl ?_
          rotate_left
          · intro w' hw
            go_simp
            try with_reducible rfl
          simp only [Act.put, List.setIfInBounds_toArray, List.set_cons_zero, List.set_cons_succ]
          refine hs_take (i := 32) (d := some 87) (v := ?_) rfl (by kernel_rfl) (by kernel_rfl) (by kernel_rfl) (by rfl) ?_ hS rfl ?_
          rotate_left
          · intro w' hw
            have hc := z1 w' hw
            go_simp
            try with_reducible rfl
          simp only [Act.put, List.setIfInBounds_toArray, List.set_cons_zero, List.set_cons_succ]
          refine hs_take (i := 34) (d := some 89) (v := ?_) rfl (by kernel_rfl) (by kernel_rfl) (by kernel_rfl) (by rfl) ?_ hS rfl ?_
          rotate_left
          · intro w' hw
            go_simp
            try with_reducible rfl
          simp only [Act.put, List.setIfInBounds_toArray, List.set_cons_zero, List.set_cons_succ]
          refine hs_take (i := 35) (d := some 90) (v := ?_) rfl (by kernel_rfl) (by kernel_rfl) (by kernel_rfl) (by rfl) ?_ hS rfl ?_
          rotate_left
          · intro w' hw
            go_simp
            try with_reducible rfl
          simp only [Act.put, List.setIfInBounds_toArray, List.set_cons_zero, List.set_cons_succ]
          refine hs_take (i := 36) (d := some 91) (v := ?_) rfl (by kernel_rfl) (by kernel_rfl) (by kernel_rfl) (by rfl) ?_ hS rfl ?_
          rotate_left
          · intro w' hw
            go_simp
            try with_reducible rfl
          simp only [Act.put, List.setIfInBounds_toArray, List.set_cons_zero, List.set_cons_succ]
          refine hs_take (i := 37) (d := some 92) (v := ?_) rfl (by kernel_rfl) (by kernel_rfl) (by kernel_rfl) (by rfl) ?_ hS rfl ?_
          rotate_left
          · intro w' hw
            have hc := z3 w' hw
            go_simp
            try with_reducible rfl
          simp only [Act.put, List.setIfInBounds_toArray, List.set_cons_zero, List.set_cons_succ]
          refine hs_take (i := 38) (d := some 93) (v := ?_) rfl (by kernel_rfl) (by kernel_rfl) (by kernel_rfl) (by rfl) ?_ hS rfl ?_
          rotate_left
          · intro w' hw
            go_simp
            try with_reducible rfl
          simp only [Act.put, List.setIfInBounds_toArray, List.set_cons_zero, List.set_cons_succ]
          refine hs_take (i := 39) (d := some 94) (v := ?_) rfl (by kernel_rfl) (by kernel_rfl) (by kernel_rfl) (by rfl) ?_ hS rfl ?_
          rotate_left
          · intro w' hw
            go_simp
            try with_reducible rfl
          simp only [Act.put, List.setIfInBounds_toArray, List.set_cons_zero, List.set_cons_succ]
          refine hs_take (i := 40) (d := some 95) (v := ?_) rfl (by kernel_rfl) (by kernel_rfl) (by kernel_rfl) (by rfl) ?_ hS rfl ?_
          rotate_left
          · intro w' hw
            have hc := zq2 w' hw
            go_simp
            try with_reducible rfl
          simp only [Act.put, List.setIfInBounds_toArray, List.set_cons_zero, List.set_cons_succ]
          refine hs_call (i := 33) (d := some 88) rfl (by kernel_rfl) (by rfl) (by go_simp; first | done | exact ⟨rfl, rfl⟩ | with_reducible rfl) rfl ?_
          refine (cTu _ hS).mono ?_
          rintro e' wN33 ⟨rfl, hbN⟩
          have hS : (Below w8.heap.size w8) wN33 := hS.trans (hbN.mono hS.size)
          refine ⟨_, rfl, hS, ?_⟩
          simp only [Act.put, List.setIfInBounds_toArray, List.set_cons_zero, List.set_cons_succ]
          refine hs_take (i := 41) (d := some 96) (v := .bool false) rfl (by kernel_rfl) (by kernel_rfl) (by kernel_rfl) (by rfl) (fun w' hw => by go_simp) hS rfl ?_
          simp only [Act.put, List.setIfInBounds_toArray, List.set_cons_zero, List.set_cons_succ]
          refine hs_take (i := 42) (d := some 97) (v := ?_) rfl (by kernel_rfl) (by kernel_rfl) (by kernel_rfl) (by rfl) ?_ hS rfl ?_
          rotate_left
          · intro w' hw
            go_simp
            try with_reducible rfl
          simp only [Act.put, List.setIfInBounds_toArray, List.set_cons_zero, List.set_cons_succ]
          refine hs_take (i := 43) (d := some 98) (v := ?_) rfl (by kernel_rfl) (by kernel_rfl) (by kernel_rfl) (by rfl) ?_ hS rfl ?_
          rotate_left
          · intro w' hw
            go_simp
            try with_reducible rfl
          simp only [Act.put, List.setIfInBounds_toArray, List.set_cons_zero, List.set_cons_succ]
          refine hs_take (i := 44) (d := some 99) (v := ?_) rfl (by kernel_rfl) (by kernel_rfl) (by kernel_rfl) (by rfl) ?_ hS rfl ?_
          rotate_left
          · intro w' hw
            go_simp
            try with_reducible rfl
          simp only [Act.put, List.setIfInBounds_toArray, List.set_cons_zero, List.set_cons_succ]
          refine hs_take (i := 45) (d := some 100) (v := ?_) rfl (by kernel_rfl) (by kernel_rfl) (by kernel_rfl) (by rfl) ?_ hS rfl ?_
          rotate_left
          · intro w' hw
            go_simp
            try with_reducible rfl
          simp only [Act.put, List.setIfInBounds_toArray, List.set_cons_zero, List.set_cons_succ]
          refine hs_take (i := 46) (d := some 101) (v := ?_) rfl (by kernel_rfl) (by kernel_rfl) (by kernel_rfl) (by rfl) ?_ hS rfl ?_
          rotate_left
          · intro w' hw
            go_simp
            try with_reducible rfl
          simp only [Act.put, List.setIfInBounds_toArray, List.set_cons_zero, List.set_cons_succ]
          refine hs_take (i := 47) (d := some 102) (v := ?_) rfl (by kernel_rfl) (by kernel_rfl) (by kernel_rfl) (by rfl) ?_ hS rfl ?_
          rotate_left
          · intro w' hw
            have hc := z1 w' hw
            go_simp
            try with_reducible rfl
          simp only [Act.put, List.setIfInBounds_toArray, List.set_cons_zero, List.set_cons_succ]
          refine hs_take (i := 49) (d := some 104) (v := ?_) rfl (by kernel_rfl) (by kernel_rfl) (by kernel_rfl) (by rfl) ?_ hS rfl ?_
          rotate_left
          · intro w' hw
            go_simp
            try with_reducible rfl
          simp only [Act.put, List.setIfInBounds_toArray, List.set_cons_zero, List.set_cons_succ]
          refine hs_take (i := 50) (d := some 105) (v := ?_) rfl (by kernel_rfl) (by kernel_rfl) (by kernel_rfl) (by rfl) ?_ hS rfl ?_
          rotate_left
          · intro w' hw
            go_simp
            try with_reducible rfl
          simp only [Act.put, List.setIfInBounds_toArray, List.set_cons_zero, List.set_cons_succ]
          refine hs_take (i := 51) (d := some 106) (v := ?_) rfl (by kernel_rfl) (by kernel_rfl) (by kernel_rfl) (by rfl) ?_ hS rfl ?_
          rotate_left
          · intro w' hw
            go_simp
            try with_reducible rfl
          simp only [Act.put, List.setIfInBounds_toArray, List.set_cons_zero, List.set_cons_succ]
          refine hs_take (i := 52) (d := some 107) (v := ?_) rfl (by kernel_rfl) (by kernel_rfl) (by kernel_rfl) (by rfl) ?_ hS rfl ?_
          rotate_left
          · intro w' hw
            have hc := z3 w' hw
            go_simp
            try with_reducible rfl
          simp only [Act.put, List.setIfInBounds_toArray, List.set_cons_zero, List.set_cons_succ]
          refine hs_call (i := 48) (d := some 103) rfl (by kernel_rfl) (by rfl) (by go_simp; first | done | exact ⟨rfl, rfl⟩ | with_reducible rfl) rfl ?_
          refine (cSu _ hS).mono ?_
          rintro e' wN48 ⟨rfl, hbN⟩
          have hS : (Below w8.heap.size w8) wN48 := hS.trans (hbN.mono hS.size)
          refine ⟨_, rfl, hS, ?_⟩
          simp only [Act.put, List.setIfInBounds_toArray, List.set_cons_zero, List.set_cons_succ]
          refine hs_call (i := 53) (d := some 108) rfl (by kernel_rfl) (by rfl) (by go_simp; first | done | exact ⟨rfl, rfl⟩ | with_reducible rfl) rfl ?_
          refine (cXs _ hS).mono ?_
          rintro e' wN53 ⟨rfl, hbN⟩
          have hS : (Below w8.heap.size w8) wN53 := hS.trans (hbN.mono hS.size)
          refine ⟨_, rfl, hS, ?_⟩
          simp only [Act.put, List.setIfInBounds_toArray, List.set_cons_zero, List.set_cons_succ]
          refine hs_take (i := 54) (d := some 109) (v := .bool false) rfl (by kernel_rfl) (by kernel_rfl) (by kernel_rfl) (by rfl) (fun w' hw => by cases sb <;> go_simp) hS rfl ?_
          simp only [Act.put, List.setIfInBounds_toArray, List.set_cons_zero, List.set_cons_succ]
          refine hs_take (i := 55) (d := some 110) (v := ?_) rfl (by kernel_rfl) (by kernel_rfl) (by kernel_rfl) (by rfl) ?_ hS rfl ?_
          rotate_left
          · intro w' hw
            go_simp
            try with_reducible rfl
          simp only [Act.put, List.setIfInBounds_toArray, List.set_cons_zero, List.set_cons_succ]
          refine hs_take (i := 56) (d := some 111) (v := ?_) rfl (by kernel_rfl) (by kernel_rfl) (by kernel_rfl) (by rfl) ?_ hS rfl ?_
          rotate_left
          · intro w' hw
            go_simp
            try with_reducible rfl
          simp only [Act.put, List.setIfInBounds_toArray, List.set_cons_zero, List.set_cons_succ]
          refine hs_take (i := 57) (d := some 112) (v := ?_) rfl (by kernel_rfl) (by kernel_rfl) (by kernel_rfl) (by rfl) ?_ hS rfl ?_
          rotate_left
          · intro w' hw
            go_simp
            try with_reducible rfl
          simp only [Act.put, List.setIfInBounds_toArray, List.set_cons_zero, List.set_cons_succ]
          refine hs_take (i := 58) (d := some 113) (v := ?_) rfl (by kernel_rfl) (by kernel_rfl) (by kernel_rfl) (by rfl) ?_ hS rfl ?_
          rotate_left
          · intro w' hw
            go_simp
            try with_reducible rfl
          simp only [Act.put, List.setIfInBounds_toArray, List.set_cons_zero, List.set_cons_succ]
          refine hs_take (i := 59) (d := some 114) (v := ?_) rfl (by kernel_rfl) (by kernel_rfl) (by kernel_rfl) (by rfl) ?_ hS rfl ?_
          rotate_left
          · intro w' hw
            go_simp
            try with_reducible rfl
          simp only [Act.put, List.setIfInBounds_toArray, List.set_cons_zero, List.set_cons_succ]
          refine hs_take (i := 60) (d := some 115) (v := ?_) rfl (by kernel_rfl) (by kernel_rfl) (by kernel_rfl) (by rfl) ?_ hS rfl ?_
          rotate_left
          · intro w' hw
            have hc := z1 w' hw
            go_simp
            try with_reducible rfl
          simp only [Act.put, List.setIfInBounds_toArray, List.set_cons_zero, List.set_cons_succ]
          refine hs_take (i := 62) (d := some 117) (v := ?_) rfl (by kernel_rfl) (by kernel_rfl) (by kernel_rfl) (by rfl) ?_ hS rfl ?_
          rotate_left
          · intro w' hw
            go_simp
            try with_reducible rfl
          simp only [Act.put, List.setIfInBounds_toArray, List.set_cons_zero, List.set_cons_succ]
          refine hs_take (i := 63) (d := some 118) (v := ?_) rfl (by kernel_rfl) (by kernel_rfl) (by kernel_rfl) (by rfl) ?_ hS rfl ?_
          rotate_left
          · intro w' hw
            go_simp
            try with_reducible rfl
          simp only [Act.put, List.setIfInBounds_toArray, List.set_cons_zero, List.set_cons_succ]
          refine hs_take (i := 64) (d := some 119) (v := ?_) rfl (by kernel_rfl) (by kernel_rfl) (by kernel_rfl) (by rfl) ?_ hS rfl ?_
          rotate_left
          · intro w' hw
            go_simp
            try with_reducible rfl
          simp only [Act.put, List.setIfInBounds_toArray, List.set_cons_zero, List.set_cons_succ]
          refine hs_take (i := 65) (d := some 120) (v := ?_) rfl (by kernel_rfl) (by kernel_rfl) (by kernel_rfl) (by rfl) ?_ hS rfl ?_
          rotate_left
          · intro w' hw
            have hc := z3 w' hw
            go_simp
            try with_reducible rfl
          simp only [Act.put, List.setIfInBounds_toArray, List.set_cons_zero, List.set_cons_succ]
          refine hs_call (i := 61) (d := some 116) rfl (by kernel_rfl) (by rfl) (by go_simp; first | done | exact ⟨rfl, rfl⟩ | with_reducible rfl) rfl ?_
          refine (cOn _ hS).mono ?_
          rintro e' wN61 ⟨rfl, hbN⟩
          have hS : (Below w8.heap.size w8) wN61 := hS.trans (hbN.mono hS.size)
          refine ⟨_, rfl, hS, ?_⟩
          simp only [Act.put, List.setIfInBounds_toArray, List.set_cons_zero, List.set_cons_succ]
          refine hs_call (i := 66) (d := some 121) rfl (by kernel_rfl) (by rfl) (by go_simp; first | done | exact ⟨rfl, rfl⟩ | with_reducible rfl) rfl ?_
          refine (cXo _ hS).mono ?_
          rintro e' wN66 ⟨rfl, hbN⟩
          have hS : (Below w8.heap.size w8) wN66 := hS.trans (hbN.mono hS.size)
          refine ⟨_, rfl, hS, ?_⟩
          simp only [Act.put, List.setIfInBounds_toArray, List.set_cons_zero, List.set_cons_succ]
          refine hs_take (i := 67) (d := some 122) (v := .bool false) rfl (by kernel_rfl) (by kernel_rfl) (by kernel_rfl) (by rfl) (fun w' hw => by cases ob <;> go_simp) hS rfl ?_
          simp only [Act.put, List.setIfInBounds_toArray, List.set_cons_zero, List.set_cons_succ]
          refine hs_take (i := 68) (d := some 123) (v := ?_) rfl (by kernel_rfl) (by kernel_rfl) (by kernel_rfl) (by rfl) ?_ hS rfl ?_
          rotate_left
          · intro w' hw
            go_simp
            try with_reducible rfl
          simp only [Act.put, List.setIfInBounds_toArray, List.set_cons_zero, List.set_cons_succ]
          refine hs_take (i := 69) (d := some 124) (v := ?_) rfl (by kernel_rfl) (by kernel_rfl) (by kernel_rfl) (by rfl) ?_ hS rfl ?_
          rotate_left
          · intro w' hw
            go_simp
            try with_reducible rfl
          simp only [Act.put, List.setIfInBounds_toArray, List.set_cons_zero, List.set_cons_succ]
          refine hs_done (by kernel_rfl) ?_
          have hBn := hB45.trans (hS.mono hB45.size)
          have hbn := HB8.out.below hS
          clear hS
          go_wp2_with fail
          go_roundw
          case rel => exact ⟨k + 1, _, _, _, _, by omega, by go_num, hbn, hBn⟩
          case measure => simp [intOf]; omega
    · have k1 : ¬ (k : Int) < (ys.length : Int) := by omega
      have cL := lives16_any wo
      go_wp2_with fail
      refine cL.mono ?_
      rintro e w9 ⟨rfl, hB9⟩
      clear cL
      go_wp2
      go_ret
      exact ⟨rfl, hB.trans (hB9.mono hB.size)⟩
end Go.Proofs.YtfkchnjbbbhmjaaGreat.Ty
namespace Go.Proofs.YtfkchnjbbbhmjaaGreat
open Go.ChangeShapes Go.WideShapes Go.ChangeAt Go.RowKit
set_option maxRecDepth 100000 in
theorem open_bytes {H : Type} {enc : TypeId × Value → H} {W : World} {base b : Nat} {sp : Nat → Bool} {held : Bool} {fuel : Nat} {v : Value} {x : DataW H × List MemPlace} (hv : Value.okWide Tryz.prog W .any base 35 v)
    (h : DataW.trod enc Tryz.prog W b sp held fuel 35 v.cells.toList = some x) : ∃ (a : Option Addr) (cap : Nat) (zs : List Int), v = .slice a zs.length cap ∧ zs.length ≤ cap ∧ cap ≤ maxLen ∧ RowAt W a zs := by
  obtain ⟨a0, len, cap, rfl⟩ := okWide_slice Tryz.underlying35 hv
  obtain ⟨a, cap', ys, h1, h2, h3, h4⟩ := bytes_of h
  simp [Value.cells] at h1
  obtain ⟨rfl, rfl, rfl⟩ := h1
  exact ⟨a0, cap, ys, rfl, h2, h3, h4⟩
set_option maxRecDepth 100000 in
theorem parts_of {H : Type} {enc : TypeId × Value → H} {W : World} {b : Nat} {sp : Nat → Bool} {held : Bool} {fuel : Nat} {l : List Value} {x : DataW H × List MemPlace}
    (h : DataW.trod enc Tryz.prog W b sp held fuel 36 l = some x) : ∃ (a : Option Addr) (cap : Nat) (ys : List Rc), l = [.slice a ys.length cap] ∧ ys.length ≤ cap ∧ cap ≤ maxLen ∧ (∀ y ∈ ys, y.ok W) ∧ RowOf Rc.cells W a ys :=
  rows_of Rc.cells (Rc.ok W) 1 (by omega) 36 35 Tryz.underlying36 (by kernel_rfl) (fun _ _ => rfl) (fun m l z hz => by
    obtain ⟨a, cap, zs, h1, h2, h3, h4⟩ := bytes_of hz
    exact ⟨⟨a, cap, zs⟩, h1, h4, h2, h3⟩) h
set_option maxRecDepth 100000 in
theorem open_parts {H : Type} {enc : TypeId × Value → H} {W : World} {base b : Nat} {sp : Nat → Bool} {held : Bool} {fuel : Nat} {v : Value} {x : DataW H × List MemPlace} (hv : Value.okWide Tryz.prog W .any base 36 v)
    (h : DataW.trod enc Tryz.prog W b sp held fuel 36 v.cells.toList = some x) : ∃ (a : Option Addr) (cap : Nat) (ys : List Rc), v = .slice a ys.length cap ∧ ys.length ≤ cap ∧ cap ≤ maxLen ∧ (∀ y ∈ ys, y.ok W) ∧ RowOf Rc.cells W a ys := by
  obtain ⟨a0, len, cap, rfl⟩ := okWide_slice Tryz.underlying36 hv
  obtain ⟨a, cap', ys, h1, h2, h3, h4, h5⟩ := parts_of h
  simp [Value.cells] at h1
  obtain ⟨rfl, rfl, rfl⟩ := h1
  exact ⟨a0, cap, ys, rfl, h2, h3, h4, h5⟩
theorem wf8 {z : Int} (h : (Lit.int .u8 z).wf = true) : 0 ≤ z ∧ z < 256 := by
  simp [Lit.wf, IntKind.min, IntKind.max, IntKind.signed, IntKind.bits] at h
  omega
end Go.Proofs.YtfkchnjbbbhmjaaGreat
namespace Go.Proofs.YtfkchnjbbbhmjaaGreat.Ty
open Go.ChangeShapes Go.WideShapes Go.ChangeAt Go.RowKit
instance : Inhabited Av := ⟨⟨0, ⟨none, 0, []⟩, none, 0, [], 0, 0⟩⟩
/-- an act as it came -/
structure Av.op (W : World) (y : Av) : Prop where
  n : I64 y.n
  row : RowAt W y.rd.a y.rd.zs
  lm : y.rs.length ≤ maxLen
  each : ∀ x ∈ y.rs, x.ok W
  rows : RowOf Rc.cells W y.ra y.rs
set_option maxRecDepth 100000 in
theorem av_of {H : Type} {enc : TypeId × Value → H} {W : World} {b : Nat} {sp : Nat → Bool} {held : Bool} {fuel : Nat} {l : List Value} {x : DataW H × List MemPlace}
    (h : DataW.trod enc Tryz.prog W b sp held fuel 38 l = some x) : ∃ A : Av, l = A.cells ∧ A.op W := by
  have hct : Tryz.prog.cellsOf 38 = 5 := by kernel_rfl
  have c3 : Tryz.prog.cellsOf 3 = 1 := by kernel_rfl
  have cb : Tryz.prog.cellsOf 35 = 1 := by kernel_rfl
  have cp : Tryz.prog.cellsOf 36 = 1 := by kernel_rfl
  obtain ⟨xs, m, _, rfl, hcl, hl, hf⟩ := DataW.trod_struct Tryz.underlying38 h
  rw [hct] at hcl
  have hl : xs.length = 5 := hl
  have h0 : DataW.trod enc Tryz.prog W b sp held m 3 ((l.drop 0).take (Tryz.prog.cellsOf 3)) = xs[0]? := hf 0 _ rfl
  have h1 : DataW.trod enc Tryz.prog W b sp held m 35 ((l.drop 1).take (Tryz.prog.cellsOf 35)) = xs[1]? := hf 1 _ rfl
  have h2 : DataW.trod enc Tryz.prog W b sp held m 36 ((l.drop 2).take (Tryz.prog.cellsOf 36)) = xs[2]? := hf 2 _ rfl
  have h3 : DataW.trod enc Tryz.prog W b sp held m 3 ((l.drop 3).take (Tryz.prog.cellsOf 3)) = xs[3]? := hf 3 _ rfl
  have h4 : DataW.trod enc Tryz.prog W b sp held m 3 ((l.drop 4).take (Tryz.prog.cellsOf 3)) = xs[4]? := hf 4 _ rfl
  rw [c3] at h0 h3 h4
  rw [cb] at h1
  rw [cp] at h2
  obtain ⟨y0, e0⟩ := some_at hl (show 0 < 5 by omega)
  obtain ⟨y1, e1⟩ := some_at hl (show 1 < 5 by omega)
  obtain ⟨y2, e2⟩ := some_at hl (show 2 < 5 by omega)
  obtain ⟨y3, e3⟩ := some_at hl (show 3 < 5 by omega)
  obtain ⟨y4, e4⟩ := some_at hl (show 4 < 5 by omega)
  obtain ⟨kd, g0, b0⟩ := int_at (h0.trans e0)
  obtain ⟨da, dc, zs, g1, k1, k2, k3⟩ := bytes_of (h1.trans e1)
  obtain ⟨ra, rc, rs, g2, m1, m2, m3, m4⟩ := parts_of (h2.trans e2)
  obtain ⟨n, g3, b3⟩ := int_at (h3.trans e3)
  obtain ⟨ke, g4, b4⟩ := int_at (h4.trans e4)
  refine ⟨⟨kd, ⟨da, dc, zs⟩, ra, rc, rs, n, ke⟩, ?_, ⟨b3, k3, Nat.le_trans m1 m2, m3, m4⟩⟩
  have g1 := drop_one g1
  have g2 := drop_one g2
  match l, hcl with
  | [a0, a1, a2, a3, a4], _ =>
    simp at g0 g1 g2 g3 g4
    subst g0 g1 g2 g3 g4
    rfl
set_option maxRecDepth 100000 in
theorem avs_of {H : Type} {enc : TypeId × Value → H} {W : World} {b : Nat} {sp : Nat → Bool} {held : Bool} {fuel : Nat} {l : List Value} {x : DataW H × List MemPlace}
    (h : DataW.trod enc Tryz.prog W b sp held fuel 22 l = some x) : ∃ (a : Option Addr) (cap : Nat) (ys : List Av), l = [.slice a ys.length cap] ∧ ys.length ≤ cap ∧ cap ≤ maxLen ∧ (∀ y ∈ ys, y.op W) ∧ RowOf Av.cells W a ys :=
  rows_of Av.cells (Av.op W) 5 (by omega) 22 38 Tryz.underlying22 (by kernel_rfl) (fun _ _ => rfl) (fun m l z hz => av_of hz) h
set_option maxRecDepth 100000 in
theorem open_avs {H : Type} {enc : TypeId × Value → H} {W : World} {base b : Nat} {sp : Nat → Bool} {held : Bool} {fuel : Nat} {v : Value} {x : DataW H × List MemPlace} (hv : Value.okWide Tryz.prog W .any base 22 v)
    (h : DataW.trod enc Tryz.prog W b sp held fuel 22 v.cells.toList = some x) : ∃ (a : Option Addr) (cap : Nat) (ys : List Av), v = .slice a ys.length cap ∧ ys.length ≤ cap ∧ cap ≤ maxLen ∧ (∀ y ∈ ys, y.op W) ∧ RowOf Av.cells W a ys := by
  obtain ⟨a0, len, cap, rfl⟩ := okWide_slice Tryz.underlying22 hv
  obtain ⟨a, cap', ys, h1, h2, h3, h4, h5⟩ := avs_of h
  simp [Value.cells] at h1
  obtain ⟨rfl, rfl, rfl⟩ := h1
  exact ⟨a0, cap, ys, rfl, h2, h3, h4, h5⟩
theorem row_old {W : World} {a : Option Addr} {zs : List Int} (h : RowAt W a zs) : zs = [] ∨ ∀ x, a = some x → x.block < W.heap.size := by
  rcases h.2.2 with z | ⟨b, off, rfl, hb, -⟩
  · exact .inl z
  · exact .inr (fun x hx => by cases hx; exact hb)
theorem Av.op.ok {W : World} {y : Av} (h : y.op W) (hl : y.rs.length ≤ 100) : y.ok W.heap.size W := by
  refine ⟨by have := h.n; unfold I64 at this; omega, h.row, row_old h.row, hl, h.rows, ?_, fun x hx => ⟨(h.each x hx).row, row_old (h.each x hx).row⟩⟩
  rcases h.rows with z | ⟨b, off, e, hb, -⟩
  · exact .inl z
  · exact .inr (fun x hx => by rw [e] at hx; cases hx; exact hb)
end Go.Proofs.YtfkchnjbbbhmjaaGreat.Ty
namespace Go.Proofs.YtfkchnjbbbhmjaaGreat.Ty
open Go.RowKit
open Tal
def addTo (n m : Int) : Int := if n + m ≤ 8000 then n + m else 8001
set_option maxRecDepth 100000 in
set_option maxHeartbeats 400000 in
theorem addCap_any (n m : Int) (w : World) (h0 : 0 ≤ n) (h1 : n ≤ 8001) (h2 : 0 ≤ m) (h3 : m ≤ 9223372036854775807) :
    Calls Tryz.prog 18 #[.int .i64 n, .int .i64 m, .int .i64 8000] w fun e w' => e = .returned (.int .i64 (addTo n m)) ∧ w' = w := by
  by_cases c1 : 8000 < n
  · have HA : Hid (addTo n m = 8001) := by show _ = _; unfold addTo; rw [if_neg (by omega)]
    rw [HA.out]
    go_enter Tryz.func18, Tryz.ntmps18
    go_wp2
    go_ret
    exact ⟨rfl, rfl⟩
  · by_cases c2 : 8000 < m
    · have HA : Hid (addTo n m = 8001) := by show _ = _; unfold addTo; rw [if_neg (by omega)]
      rw [HA.out]
      go_enter Tryz.func18, Tryz.ntmps18
      go_wp2
      go_ret
      exact ⟨rfl, rfl⟩
    · by_cases c3 : 8000 - m < n
      · have HA : Hid (addTo n m = 8001) := by show _ = _; unfold addTo; rw [if_neg (by omega)]
        rw [HA.out]
        go_enter Tryz.func18, Tryz.ntmps18
        go_wp2
        go_ret
        exact ⟨rfl, rfl⟩
      · have HA : Hid (addTo n m = n + m) := by show _ = _; unfold addTo; rw [if_pos (by omega)]
        rw [HA.out]
        go_enter Tryz.func18, Tryz.ntmps18
        go_wp2
        go_ret
        exact ⟨rfl, rfl⟩
def wtR (ys : List Rc) : Nat := (ys.map fun y => 20 + y.zs.length).sum
theorem wtR_take (ys : List Rc) (k : Nat) (hk : k < ys.length) : wtR (ys.take (k + 1)) = wtR (ys.take k) + (20 + ys[k].zs.length) := by
  unfold wtR
  rw [List.take_succ_eq_append_getElem hk]
  simp only [List.map_append, List.map_cons, List.map_nil, List.sum_append, List.sum_cons, List.sum_nil]
  omega
set_option maxRecDepth 100000 in
set_option maxHeartbeats 20000000 in
theorem Light16_any (a : Option Addr) (cap : Nat) (ys : List Rc) (w : World) (h : Recs w a ys) :
    Calls Tryz.prog 17 #[.slice a ys.length cap] w fun e w' => (e = .returned (.bool false) ∧ Below w.heap.size w w') ∨ (e = .returned (.bool true) ∧ Below w.heap.size w w' ∧ wtR ys ≤ 8000) := by
  have hl := h.le
  go_enter Tryz.func17, Tryz.ntmps17
  go_wp2
  go_loopw [3, 4] (fun nv iv wr => ∃ (k : Nat) (n : Int), k ≤ ys.length ∧ iv = .int .i64 (k : Int) ∧ nv = .int .i64 n ∧ 0 ≤ n ∧ n ≤ 8001 ∧ Hid (n ≤ 8000 → n = wtR (ys.take k)) ∧ Below w.heap.size w wr) (fun _ iv _ => ys.length - (intOf iv).toNat)
  case atStart => exact ⟨0, 0, by omega, rfl, rfl, by omega, by omega, hide (fun _ => by simp [wtR]), Below.refl _ _⟩
  case round =>
    obtain ⟨k, n, hk, rfl, rfl, h0, h1, HL, hbel⟩ := hrel
    obtain ⟨wo, rfl⟩ : ∃ wo, wo = wr := ⟨_, rfl⟩
    by_cases hlt : k < ys.length
    · by_cases hn : n ≤ 8000
      · obtain ⟨rb, off, rfl, hrb, hre, hry⟩ := h.get k hlt
        have HT := hide (wtR_take ys k hlt)
        have hzl := hry.1
        clear hry
        obtain ⟨y, hy⟩ : ∃ y, Hid (ys[k] = y) := ⟨_, hide rfl⟩
        rw [hy.out] at hre HT hzl
        unfold maxLen at hzl
        have hre2 : w.cell? ⟨rb, off + k, none⟩ = some (.slice y.a y.zs.length y.cap) := hre
        clear hre hy
        have k1 : (k : Int) < ys.length := by omega
        have HA2 : Hid (addTo n 20 ≤ 8001 ∧ 0 ≤ addTo n 20 ∧ (addTo n 20 ≤ 8000 → addTo n 20 = wtR (ys.take k) + 20)) := by
          unfold addTo
          have := HL.out hn
          split
          · refine ⟨by omega, by omega, fun _ => by omega⟩
          · refine ⟨by omega, by omega, fun h => by omega⟩
        have ca := fun w0 => addCap_any n 20 w0 h0 h1 (by omega) (by omega)
        obtain ⟨p2, hp2⟩ : ∃ p, Hid (addTo n 20 = p) := ⟨_, hide rfl⟩
        simp only [hp2.out] at ca
        rw [hp2.out] at HA2
        have cb := fun w0 => addCap_any p2 (y.zs.length : Int) w0 HA2.out.2.1 HA2.out.1 (by omega) (by omega)
        have HA3 : Hid (addTo p2 y.zs.length ≤ 8001 ∧ 0 ≤ addTo p2 y.zs.length ∧ (addTo p2 y.zs.length ≤ 8000 → addTo p2 y.zs.length = wtR (ys.take (k + 1)))) := by
          unfold addTo
          have := HA2.out
          have := HT.out
          split
          · refine ⟨by omega, by omega, fun _ => by have := HA2.out.2.2 (by omega); omega⟩
          · refine ⟨by omega, by omega, fun h => by omega⟩
        obtain ⟨p3, hp3⟩ : ∃ p, Hid (addTo p2 y.zs.length = p) := ⟨_, hide rfl⟩
        simp only [hp3.out] at cb
        rw [hp3.out] at HA3
        clear hp2 hp3 HT HA2
        go_wp2_with fail
        obtain ⟨w5, hw5⟩ : ∃ w5, wo.drew = w5 := ⟨_, rfl⟩
        have hB5 : Below w.heap.size w w5 := by rw [← hw5]; exact hbel.drew
        have c2 : ∀ w', Below w5.heap.size w5 w' → w'.cell? ⟨rb, off + k, none⟩ = some (.slice y.a y.zs.length y.cap) := fun w' hw' => ((hB5.trans (hw'.mono hB5.size)).cell (p := ⟨rb, off + k, none⟩) hrb).trans hre2
        refine hs_begin (S := (Below w5.heap.size w5)) 9 rfl (by kernel_rfl) ?_
        rw [hw5]
        clear hw5
        have hS : (Below w5.heap.size w5) w5 := Below.refl _ _
        refine hs_take (i := 0) (d := some 15) (v := ?_) rfl (by kernel_rfl) (by kernel_rfl) (by kernel_rfl) (by rfl) ?_ hS rfl ?_
        rotate_left
        · intro w' hw
          go_simp
          try with_reducible rfl
        simp only [Act.put, List.setIfInBounds_toArray, List.set_cons_zero, List.set_cons_succ]
        refine hs_take (i := 2) (d := some 17) (v := ?_) rfl (by kernel_rfl) (by kernel_rfl) (by kernel_rfl) (by rfl) ?_ hS rfl ?_
        rotate_left
        · intro w' hw
          go_simp
          try with_reducible rfl
        simp only [Act.put, List.setIfInBounds_toArray, List.set_cons_zero, List.set_cons_succ]
        refine hs_take (i := 3) (d := some 18) (v := ?_) rfl (by kernel_rfl) (by kernel_rfl) (by kernel_rfl) (by rfl) ?_ hS rfl ?_
        rotate_left
        · intro w' hw
          go_simp
          try with_reducible rfl
        simp only [Act.put, List.setIfInBounds_toArray, List.set_cons_zero, List.set_cons_succ]
        refine hs_take (i := 4) (d := some 19) (v := ?_) rfl (by kernel_rfl) (by kernel_rfl) (by kernel_rfl) (by rfl) ?_ hS rfl ?_
        rotate_left
        · intro w' hw
          go_simp
          try with_reducible rfl
        simp only [Act.put, List.setIfInBounds_toArray, List.set_cons_zero, List.set_cons_succ]
        refine hs_take (i := 5) (d := some 20) (v := ?_) rfl (by kernel_rfl) (by kernel_rfl) (by kernel_rfl) (by rfl) ?_ hS rfl ?_
        rotate_left
        · intro w' hw
          have hc := c2 w' hw
          go_simp
          try with_reducible rfl
        simp only [Act.put, List.setIfInBounds_toArray, List.set_cons_zero, List.set_cons_succ]
        refine hs_take (i := 6) (d := some 21) (v := ?_) rfl (by kernel_rfl) (by kernel_rfl) (by kernel_rfl) (by rfl) ?_ hS rfl ?_
        rotate_left
        · intro w' hw
          go_simp
          try with_reducible rfl
        simp only [Act.put, List.setIfInBounds_toArray, List.set_cons_zero, List.set_cons_succ]
        refine hs_call (i := 1) (d := some 16) rfl (by kernel_rfl) (by rfl) (by go_simp; first | done | exact ⟨rfl, rfl⟩ | with_reducible rfl) rfl ?_
        refine (ca w5).mono ?_
        rintro e' w6 ⟨rfl, hx⟩
        have hS : (Below w5.heap.size w5) w6 := by rw [hx]; exact hS
        refine ⟨_, rfl, hS, ?_⟩
        simp only [Act.put, List.setIfInBounds_toArray, List.set_cons_zero, List.set_cons_succ]
        obtain rfl := hx.symm
        clear hx
        refine hs_call (i := 7) (d := some 22) rfl (by kernel_rfl) (by rfl) (by go_simp; first | done | exact ⟨rfl, rfl⟩ | with_reducible rfl) rfl ?_
        refine (cb w5).mono ?_
        rintro e' w7 ⟨rfl, hx⟩
        have hS : (Below w5.heap.size w5) w7 := by rw [hx]; exact hS
        refine ⟨_, rfl, hS, ?_⟩
        simp only [Act.put, List.setIfInBounds_toArray, List.set_cons_zero, List.set_cons_succ]
        obtain rfl := hx.symm
        clear hx
        refine hs_take (i := 8) (d := some 3) (v := ?_) rfl (by kernel_rfl) (by kernel_rfl) (by kernel_rfl) (by rfl) ?_ hS rfl ?_
        rotate_left
        · intro w' hw
          go_simp
          try with_reducible rfl
        simp only [Act.put, List.setIfInBounds_toArray, List.set_cons_zero, List.set_cons_succ]
        refine hs_done (by kernel_rfl) ?_
        go_wp2
        go_roundw
        case rel => exact ⟨k + 1, p3, by omega, by go_num, rfl, HA3.out.2.1, HA3.out.1, hide HA3.out.2.2, hB5⟩
        case measure => simp [intOf]; omega
      · go_wp2
        go_ret
        exact .inl ⟨rfl, hbel⟩
    · have hk' : k = ys.length := by omega
      have HF : Hid (n ≤ 8000 → wtR ys ≤ 8000) := by
        intro hn
        have := HL.out hn
        rw [hk', List.take_length] at this
        omega
      have k1 : ¬ (k : Int) < ys.length := by omega
      clear HL
      by_cases hn : n ≤ 8000
      · go_wp2
        go_ret
        exact .inr ⟨rfl, hbel, HF.out hn⟩
      · go_wp2
        go_ret
        exact .inl ⟨rfl, hbel⟩
theorem wtR_len (ys : List Rc) : ys.length * 20 ≤ wtR ys := by
  induction ys with
  | nil => simp [wtR]
  | cons y ys ih => simp only [wtR, List.map_cons, List.sum_cons, List.length_cons] at *; omega
theorem wtR_mem {ys : List Rc} {y : Rc} (h : y ∈ ys) : 20 + y.zs.length ≤ wtR ys := by
  induction ys with
  | nil => cases h
  | cons x ys ih =>
    simp only [wtR, List.map_cons, List.sum_cons] at *
    rcases List.mem_cons.1 h with rfl | h
    · omega
    · have := ih h; omega
end Go.Proofs.YtfkchnjbbbhmjaaGreat.Ty
