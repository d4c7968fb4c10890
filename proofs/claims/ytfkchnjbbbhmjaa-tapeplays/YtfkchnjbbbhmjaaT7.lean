/- tape: operate; Sync, Clear -/
import Derived.Test.YtfkchnjbbbhmjaaT6
import Derived.Laws.EntriesVeiled
namespace Go.Proofs.Ytfkchnjbbbhmjaa
open Go.RowKit
theorem Turned.trans {w w1 w2 : World} {t : Tv} {t1 : Tv} {M2 : Mt} (hp : t1.p = t.p) (ho : Off t.own w w1) (hn : ∀ b, t1.own b → t.own b ∨ w.heap.size ≤ b) (h : Turned w1 w2 t1 M2) : Turned w w2 t M2 := by
  obtain ⟨t2, e1, e2, e3, e4⟩ := h
  refine ⟨t2, e1.trans hp, e2, ho.trans e3 (fun b hb q => ?_), fun b q => ?_⟩
  · rcases hn b q with q1 | q1
    · exact q1
    · omega
  · rcases e4 b q with q1 | q1
    · exact hn b q1
    · right; have := ho.size; omega
def Mt.down (M : Mt) : Mt := { M with af := if M.pl then M.af - 1 else M.af }
theorem down_turned {w : World} {t : Tv} {M : Mt} (h : TapeAt w t M) (hpl : M.pl = true) (hne : M.af ≠ 0) : Turned w (w.setCell ⟨t.p, 8, none⟩ (.int .i64 (M.af - 1))) t M.down := by
  have hd : M.down.ok := by
    have := h.ok.count (fun q => hne q.2)
    exact ⟨this.za, this.zb, this.sa, this.sb, this.rm, this.rl, this.pa⟩
  have he : M.down.af = M.af - 1 := by simp only [Mt.down, hpl, if_true]
  exact Turned.of_cells (t' := { t with x := M.af - 1 }) h ((CellsAt.start h).set 8 _) rfl h.oa h.ob (.inr rfl) (.inr rfl) (fun _ => ⟨he.symm, (h.px hpl).2⟩) hd
theorem down_same {w : World} {t : Tv} {M : Mt} (h : TapeAt w t M) (hpl : M.pl = false) : TapeAt w t M.down := by
  have he : M.down = M := by
    unfold Mt.down
    rw [hpl]
    cases M
    cases hpl
    rfl
  rw [he]; exact h
theorem ops_turned {w : World} {t : Tv} {M : Mt} (h : TapeAt w t M) : Turned w (w.setCell ⟨t.p, 10, none⟩ (.int .i64 (wrap64 (M.ops + 1)))) t { M with ops := wrap64 (M.ops + 1) } :=
  Turned.of_cells h ((CellsAt.start h).set 10 _) rfl h.oa h.ob (.inr rfl) (.inr rfl) h.px ⟨h.ok.za, h.ok.zb, h.ok.sa, h.ok.sb, h.ok.rm, h.ok.rl, h.ok.pa⟩
set_option maxRecDepth 100000 in
set_option maxHeartbeats 4000000 in
theorem operate_0 (t : Tv) (M : Mt) (g : Nat) (eg : ∀ args w, (callFunc g args).run Try.prog w = .ok (.enter g args) w) (caps : Array Value) (f : Bool → Mt → Mt) (w : World) (h : TapeAt w t M) (hon : M.on = true)
    (hf : ∀ W t1, TapeAt W t1 M.down → t1.p = t.p → Off t.own w W → (∀ b, t1.own b → t.own b ∨ w.heap.size ≤ b) → Calls Try.prog g (#[.pointer (some ⟨t.p, 3, none⟩)] ++ caps) W fun e W' => e = .returned (.tuple #[]) ∧ Turned W W' t1 (f false M.down))
    (hfc : f false M.count = { f false M.down with ops := wrap64 (M.ops + 1) }) (hfo : (f false M.down).ops = M.ops) :
    Calls Try.prog 43 #[tptr t, .int .i64 0, .func (.func g) #[] caps] w fun e w' => e = .returned (.int .i64 (M.does 0 f).1) ∧ Turned w w' t (M.does 0 f).2 := by
  have c1 := reach_any t M 0 w h
  have hfa : M.fault 0 = 0 := by unfold Mt.fault; rw [if_pos (by omega), if_pos hon]
  rw [hfa] at c1
  have q7 := h.c7
  have q8 := h.c8
  have q9 := h.c9
  have f8 := h.fz 8 (by omega)
  unfold Mt.does
  rw [if_pos hfa, show decide ((0 : Int) = 1) = false from rfl]
  clear hfa
  by_cases hpl : M.pl = true
  · rw [hpl] at q7
    rw [(h.px hpl).1] at q8
    rw [(h.px hpl).2] at q9
    by_cases haf : M.af = 0
    · rw [if_pos ⟨hpl, haf⟩]
      have c2 := lose_any t M M.ke w h
      rw [haf] at q8
      obtain ⟨M', hM'⟩ : ∃ M', Hid (M.lose M.ke = M') := ⟨_, hide rfl⟩
      rw [hM'.out] at c2 ⊢
      obtain ⟨ke, hke⟩ : ∃ ke, Hid (M.ke = ke) := ⟨_, hide rfl⟩
      rw [hke.out] at c2 q9
      unfold tptr at *
      clear h hf hfc hfo hM' hke haf hpl hon
      go_enter Try.func43, Try.ntmps43
      go_wp2_with fail
      refine c1.mono ?_
      rintro e w' ⟨rfl, hw⟩
      obtain rfl := hw.symm
      clear c1 hw
      go_wp2_with fail
      refine c2.mono ?_
      rintro e w' ⟨rfl, hw⟩
      clear c2
      go_wp2_with fail
      go_ret
      exact ⟨rfl, hw⟩
    · rw [if_neg (fun q => haf q.2)]
      have HD := hide (down_turned h hpl haf)
      have hab := h.ok.pa hpl
      obtain ⟨z, hz⟩ : ∃ z, Hid (M.af = z) := ⟨_, hide rfl⟩
      rw [hz.out] at q8 HD haf hab
      have hz0 : (z == 0) = false := by simpa using haf
      have hz1 : 0 < z := by omega
      have hz2 : z ≤ 9223372036854775807 := hab.2
      unfold tptr at *
      clear h hz hpl hon hab haf
      go_enter Try.func43, Try.ntmps43
      go_wp2_with fail
      refine c1.mono ?_
      rintro e w' ⟨rfl, hw⟩
      obtain rfl := hw.symm
      clear c1 hw
      go_wp2_with fail
      obtain ⟨t1, p1, h1, o1, n1⟩ := HD.out
      have c3 := hf _ t1 h1 p1 o1 n1
      clear hf HD
      refine c3.mono ?_
      clear c3
      rintro e w3 ⟨rfl, t2, p2, h2, o2, n2⟩
      have hpp : t2.p = t.p := p2.trans p1
      have q10 := h2.c10
      have f10 := h2.fz 10 (by omega)
      rw [hpp] at q10 f10
      rw [hfo] at q10
      have HX : Hid (Turned w (w3.setCell ⟨t.p, 10, none⟩ (.int .i64 (wrap64 (M.ops + 1)))) t (f false M.count)) := hide (by
        have g1 := ops_turned h2
        rw [hfo, hpp] at g1
        rw [hfc]
        exact Turned.trans p1 o1 n1 (Turned.trans p2 o2 n2 g1))
      clear h2 h1 o1 n1 o2 n2 hpp p2 p1
      go_wp2_with fail
      go_ret
      exact ⟨rfl, HX.out⟩
  · rw [if_neg (fun q => hpl q.1)]
    have hpl : M.pl = false := by simpa using hpl
    rw [hpl] at q7
    have h1 := down_same h hpl
    have c3 := hf w t h1 rfl (Off.refl _ _) (fun _ q => .inl q)
    unfold tptr at *
    clear h hpl hon hf
    go_enter Try.func43, Try.ntmps43
    go_wp2_with fail
    refine c1.mono ?_
    rintro e w' ⟨rfl, hw⟩
    obtain rfl := hw.symm
    clear c1 hw
    go_wp2_with fail
    refine c3.mono ?_
    clear c3
    have p1 : t.p = t.p := rfl
    have o1 : Off t.own w w := Off.refl _ _
    have n1 : ∀ b, t.own b → t.own b ∨ w.heap.size ≤ b := fun _ q => .inl q
    rintro e w3 ⟨rfl, t2, p2, h2, o2, n2⟩
    have hpp : t2.p = t.p := p2.trans p1
    have q10 := h2.c10
    have f10 := h2.fz 10 (by omega)
    rw [hpp] at q10 f10
    rw [hfo] at q10
    have HX : Hid (Turned w (w3.setCell ⟨t.p, 10, none⟩ (.int .i64 (wrap64 (M.ops + 1)))) t (f false M.count)) := hide (by
      have g1 := ops_turned h2
      rw [hfo, hpp] at g1
      rw [hfc]
      exact Turned.trans p1 o1 n1 (Turned.trans p2 o2 n2 g1))
    clear h2 h1 o1 n1 o2 n2 hpp p2 p1
    go_wp2_with fail
    go_ret
    exact ⟨rfl, HX.out⟩
set_option maxRecDepth 100000 in
set_option maxHeartbeats 4000000 in
theorem operate_1 (t : Tv) (M : Mt) (g : Nat) (eg : ∀ args w, (callFunc g args).run Try.prog w = .ok (.enter g args) w) (caps : Array Value) (f : Bool → Mt → Mt) (w : World) (h : TapeAt w t M) (hon : M.on = true)
    (hf : ∀ W t1, TapeAt W t1 M.down → t1.p = t.p → Off t.own w W → (∀ b, t1.own b → t.own b ∨ w.heap.size ≤ b) → Calls Try.prog g (#[.pointer (some ⟨t.p, 5, none⟩)] ++ caps) W fun e W' => e = .returned (.tuple #[]) ∧ Turned W W' t1 (f true M.down))
    (hfc : f true M.count = { f true M.down with ops := wrap64 (M.ops + 1) }) (hfo : (f true M.down).ops = M.ops) :
    Calls Try.prog 43 #[tptr t, .int .i64 1, .func (.func g) #[] caps] w fun e w' => e = .returned (.int .i64 (M.does 1 f).1) ∧ Turned w w' t (M.does 1 f).2 := by
  have c1 := reach_any t M 1 w h
  have hfa : M.fault 1 = 0 := by unfold Mt.fault; rw [if_pos (by omega), if_pos hon]
  rw [hfa] at c1
  have q7 := h.c7
  have q8 := h.c8
  have q9 := h.c9
  have f8 := h.fz 8 (by omega)
  unfold Mt.does
  rw [if_pos hfa, show decide ((1 : Int) = 1) = true from rfl]
  clear hfa
  by_cases hpl : M.pl = true
  · rw [hpl] at q7
    rw [(h.px hpl).1] at q8
    rw [(h.px hpl).2] at q9
    by_cases haf : M.af = 0
    · rw [if_pos ⟨hpl, haf⟩]
      have c2 := lose_any t M M.ke w h
      rw [haf] at q8
      obtain ⟨M', hM'⟩ : ∃ M', Hid (M.lose M.ke = M') := ⟨_, hide rfl⟩
      rw [hM'.out] at c2 ⊢
      obtain ⟨ke, hke⟩ : ∃ ke, Hid (M.ke = ke) := ⟨_, hide rfl⟩
      rw [hke.out] at c2 q9
      unfold tptr at *
      clear h hf hfc hfo hM' hke haf hpl hon
      go_enter Try.func43, Try.ntmps43
      go_wp2_with fail
      refine c1.mono ?_
      rintro e w' ⟨rfl, hw⟩
      obtain rfl := hw.symm
      clear c1 hw
      go_wp2_with fail
      refine c2.mono ?_
      rintro e w' ⟨rfl, hw⟩
      clear c2
      go_wp2_with fail
      go_ret
      exact ⟨rfl, hw⟩
    · rw [if_neg (fun q => haf q.2)]
      have HD := hide (down_turned h hpl haf)
      have hab := h.ok.pa hpl
      obtain ⟨z, hz⟩ : ∃ z, Hid (M.af = z) := ⟨_, hide rfl⟩
      rw [hz.out] at q8 HD haf hab
      have hz0 : (z == 0) = false := by simpa using haf
      have hz1 : 0 < z := by omega
      have hz2 : z ≤ 9223372036854775807 := hab.2
      unfold tptr at *
      clear h hz hpl hon hab haf
      go_enter Try.func43, Try.ntmps43
      go_wp2_with fail
      refine c1.mono ?_
      rintro e w' ⟨rfl, hw⟩
      obtain rfl := hw.symm
      clear c1 hw
      go_wp2_with fail
      obtain ⟨t1, p1, h1, o1, n1⟩ := HD.out
      have c3 := hf _ t1 h1 p1 o1 n1
      clear hf HD
      refine c3.mono ?_
      clear c3
      rintro e w3 ⟨rfl, t2, p2, h2, o2, n2⟩
      have hpp : t2.p = t.p := p2.trans p1
      have q10 := h2.c10
      have f10 := h2.fz 10 (by omega)
      rw [hpp] at q10 f10
      rw [hfo] at q10
      have HX : Hid (Turned w (w3.setCell ⟨t.p, 10, none⟩ (.int .i64 (wrap64 (M.ops + 1)))) t (f true M.count)) := hide (by
        have g1 := ops_turned h2
        rw [hfo, hpp] at g1
        rw [hfc]
        exact Turned.trans p1 o1 n1 (Turned.trans p2 o2 n2 g1))
      clear h2 h1 o1 n1 o2 n2 hpp p2 p1
      go_wp2_with fail
      go_ret
      exact ⟨rfl, HX.out⟩
  · rw [if_neg (fun q => hpl q.1)]
    have hpl : M.pl = false := by simpa using hpl
    rw [hpl] at q7
    have h1 := down_same h hpl
    have c3 := hf w t h1 rfl (Off.refl _ _) (fun _ q => .inl q)
    unfold tptr at *
    clear h hpl hon hf
    go_enter Try.func43, Try.ntmps43
    go_wp2_with fail
    refine c1.mono ?_
    rintro e w' ⟨rfl, hw⟩
    obtain rfl := hw.symm
    clear c1 hw
    go_wp2_with fail
    refine c3.mono ?_
    clear c3
    have p1 : t.p = t.p := rfl
    have o1 : Off t.own w w := Off.refl _ _
    have n1 : ∀ b, t.own b → t.own b ∨ w.heap.size ≤ b := fun _ q => .inl q
    rintro e w3 ⟨rfl, t2, p2, h2, o2, n2⟩
    have hpp : t2.p = t.p := p2.trans p1
    have q10 := h2.c10
    have f10 := h2.fz 10 (by omega)
    rw [hpp] at q10 f10
    rw [hfo] at q10
    have HX : Hid (Turned w (w3.setCell ⟨t.p, 10, none⟩ (.int .i64 (wrap64 (M.ops + 1)))) t (f true M.count)) := hide (by
      have g1 := ops_turned h2
      rw [hfo, hpp] at g1
      rw [hfc]
      exact Turned.trans p1 o1 n1 (Turned.trans p2 o2 n2 g1))
    clear h2 h1 o1 n1 o2 n2 hpp p2 p1
    go_wp2_with fail
    go_ret
    exact ⟨rfl, HX.out⟩
set_option maxRecDepth 100000 in
set_option maxHeartbeats 4000000 in
theorem operate_no (t : Tv) (M : Mt) (area : Int) (g : Nat) (caps : Array Value) (f : Bool → Mt → Mt) (w : World) (h : TapeAt w t M) (hfa : M.fault area ≠ 0) :
    Calls Try.prog 43 #[tptr t, .int .i64 area, .func (.func g) #[] caps] w fun e w' => e = .returned (.int .i64 (M.does area f).1) ∧ Turned w w' t (M.does area f).2 := by
  have c1 := reach_any t M area w h
  unfold Mt.does
  rw [if_neg hfa]
  have HT : Hid (Turned w w t M) := hide (Turned.same h (Below.refl _ _))
  obtain ⟨z, hz⟩ : ∃ z, Hid (M.fault area = z) := ⟨_, hide rfl⟩
  rw [hz.out] at c1 hfa ⊢
  have hz0 : (z == 0) = false := by simpa using hfa
  unfold tptr at *
  clear h hz hfa
  go_enter Try.func43, Try.ntmps43
  go_wp2_with fail
  refine c1.mono ?_
  rintro e w' ⟨rfl, hw⟩
  obtain rfl := hw.symm
  clear c1 hw
  go_wp2_with fail
  go_ret
  exact ⟨rfl, HT.out⟩
theorem operate_any (t : Tv) (M : Mt) (area : Int) (g : Nat) (eg : ∀ args w, (callFunc g args).run Try.prog w = .ok (.enter g args) w) (caps : Array Value) (f : Bool → Mt → Mt) (w : World) (h : TapeAt w t M)
    (hf : M.fault area = 0 → ∀ k, ∀ W t1, TapeAt W t1 M.down → t1.p = t.p → Off t.own w W → (∀ b, t1.own b → t.own b ∨ w.heap.size ≤ b) → Calls Try.prog g (#[areaP t1 k] ++ caps) W fun e W' => e = .returned (.tuple #[]) ∧ Turned W W' t1 (f k M.down))
    (hfc : ∀ k, f k M.count = { f k M.down with ops := wrap64 (M.ops + 1) }) (hfo : ∀ k, (f k M.down).ops = M.ops) :
    Calls Try.prog 43 #[tptr t, .int .i64 area, .func (.func g) #[] caps] w fun e w' => e = .returned (.int .i64 (M.does area f).1) ∧ Turned w w' t (M.does area f).2 := by
  by_cases hfa : M.fault area = 0
  · have hc : (area = 0 ∨ area = 1) ∧ M.on = true := by
      unfold Mt.fault at hfa
      split at hfa
      · rename_i q
        refine ⟨q, ?_⟩
        split at hfa
        · assumption
        · cases hfa
      · cases hfa
    have hf' := hf hfa
    rcases hc.1 with rfl | rfl
    · exact operate_0 t M g eg caps f w h hc.2 (fun W t1 k1 k2 k3 k4 => by have := hf' false W t1 k1 k2 k3 k4; unfold areaP offA at this; rw [k2] at this; exact this) (hfc false) (hfo false)
    · exact operate_1 t M g eg caps f w h hc.2 (fun W t1 k1 k2 k3 k4 => by have := hf' true W t1 k1 k2 k3 k4; unfold areaP offA at this; rw [k2] at this; exact this) (hfc true) (hfo true)
  · exact operate_no t M area g caps f w h hfa
theorem eg_sync (args : Array Value) (w : World) : (callFunc 46 args).run Try.prog w = .ok (.enter 46 args) w := by go_simp
theorem eg_clear (args : Array Value) (w : World) : (callFunc 48 args).run Try.prog w = .ok (.enter 48 args) w := by go_simp
theorem eg_app (args : Array Value) (w : World) : (callFunc 44 args).run Try.prog w = .ok (.enter 44 args) w := by go_simp
set_option maxRecDepth 100000 in
set_option maxHeartbeats 2000000 in
theorem tsync_any (t : Tv) (M : Mt) (area : Int) (w : World) (h : TapeAt w t M) :
    Calls Try.prog 15 #[tptr t, .int .i64 area] w fun e w' => e = .returned (.int .i64 (M.sync area).1) ∧ Turned w w' t (M.sync area).2 := by
  have c1 := operate_any t M area 46 eg_sync #[] Mt.settle w h (fun _ k W t1 k1 _ _ _ => sync1_any t1 M.down k W k1) (fun k => by cases k <;> rfl) (fun k => by cases k <;> rfl)
  unfold Mt.sync
  generalize M.does area Mt.settle = r at *
  unfold tptr at *
  clear h
  go_enter Try.func15, Try.ntmps15
  go_wp2_with fail
  refine c1.mono ?_
  rintro e w' ⟨rfl, hw⟩
  clear c1
  go_wp2_with fail
  go_ret
  exact ⟨rfl, hw⟩
set_option maxRecDepth 100000 in
set_option maxHeartbeats 2000000 in
theorem tclear_any (t : Tv) (M : Mt) (area : Int) (w : World) (h : TapeAt w t M) :
    Calls Try.prog 16 #[tptr t, .int .i64 area] w fun e w' => e = .returned (.int .i64 (M.empty area).1) ∧ Turned w w' t (M.empty area).2 := by
  have c1 := operate_any t M area 48 eg_clear #[] Mt.clear w h (fun _ k W t1 k1 _ _ _ => clear1_any t1 M.down k W k1) (fun k => by cases k <;> rfl) (fun k => by cases k <;> rfl)
  unfold Mt.empty
  generalize M.does area Mt.clear = r at *
  unfold tptr at *
  clear h
  go_enter Try.func16, Try.ntmps16
  go_wp2_with fail
  refine c1.mono ?_
  rintro e w' ⟨rfl, hw⟩
  clear c1
  go_wp2_with fail
  go_ret
  exact ⟨rfl, hw⟩
end Go.Proofs.Ytfkchnjbbbhmjaa
