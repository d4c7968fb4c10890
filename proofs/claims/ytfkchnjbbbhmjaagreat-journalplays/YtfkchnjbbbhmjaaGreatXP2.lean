/- tape: operate; Sync, Clear; tape: Append, Read; a tape beside what must stay; tape: the chapter's example; rows of whatever; acts; raddlelaw15.Light: are acts not more than are looked at?; tapes that no call made; the walk of TapeNobody; what a tape that has no plan answers; the walk of TapeRefused; A region that draws its order where two operations are ready at once: both ways.; the document's tape: where it lies; New, fault, Used, Sure, Read, Arm; the document's tape: what is told of it; New, Arm -/
import Derived.Test.YtfkchnjbbbhmjaaGreatXP1
import Derived.Laws.EntriesVeiled
import Derived.Lib.SlBytesConst
import Derived.SliceStrings
import Derived.ProofKit
import Derived.OpenShut
import Derived.ShutString
import Derived.ChangeOld
import Derived.Deep.Slices
import Derived.Lib.LaidTab
namespace Go.Proofs.YtfkchnjbbbhmjaaGreat
open Go.RowKit
theorem Turned.trans {w w1 w2 : World} {t : Tv} {t1 : Tv} {M2 : Mt} (hp : t1.p = t.p) (ho : Off t.own w w1) (hn : ∀ b, t1.own b → t.own b ∨ w.heap.size ≤ b) (h : Turned w1 w2 t1 M2) : Turned w w2 t M2 := by
  obtain ⟨t2, e1, e2, e3, e4⟩ := h
  refine ⟨t2, e1.trans hp, e2, ho.trans e3 (fun b hb q => ?_), fun b q => ?_⟩
  · rcases hn b q with q1 | q1
    · exact q1
    · omega
  · rcases e4 b q with q1 | q1
    · exact hn b q1
    · right; have := ho.size; omega
def Mt.down (M : Mt) : Mt := { M with af := if M.pl then M.af - 1 else M.af }
theorem down_turned {w : World} {t : Tv} {M : Mt} (h : TapeAt w t M) (hpl : M.pl = true) (hne : M.af ≠ 0) : Turned w (w.setCell ⟨t.p, 8, none⟩ (.int .i64 (M.af - 1))) t M.down := by
  have hd : M.down.ok := by
    have := h.ok.count (fun q => hne q.2)
    exact ⟨this.za, this.zb, this.sa, this.sb, this.rm, this.rl, this.pa⟩
  have he : M.down.af = M.af - 1 := by simp only [Mt.down, hpl, if_true]
  exact Turned.of_cells (t' := { t with x := M.af - 1 }) h ((CellsAt.start h).set 8 _) rfl h.oa h.ob (.inr rfl) (.inr rfl) (fun _ => ⟨he.symm, (h.px hpl).2⟩) hd
theorem down_same {w : World} {t : Tv} {M : Mt} (h : TapeAt w t M) (hpl : M.pl = false) : TapeAt w t M.down := by
  have he : M.down = M := by
    unfold Mt.down
    rw [hpl]
    cases M
    cases hpl
    rfl
  rw [he]; exact h
theorem ops_turned {w : World} {t : Tv} {M : Mt} (h : TapeAt w t M) : Turned w (w.setCell ⟨t.p, 10, none⟩ (.int .i64 (wrap64 (M.ops + 1)))) t { M with ops := wrap64 (M.ops + 1) } :=
  Turned.of_cells h ((CellsAt.start h).set 10 _) rfl h.oa h.ob (.inr rfl) (.inr rfl) h.px ⟨h.ok.za, h.ok.zb, h.ok.sa, h.ok.sb, h.ok.rm, h.ok.rl, h.ok.pa⟩
set_option maxRecDepth 100000 in
set_option maxHeartbeats 4000000 in
theorem operate_0 (t : Tv) (M : Mt) (g : Nat) (eg : ∀ args w, (callFunc g args).run Tryz.prog w = .ok (.enter g args) w) (caps : Array Value) (f : Bool → Mt → Mt) (w : World) (h : TapeAt w t M) (hon : M.on = true)
    (hf : ∀ W t1, TapeAt W t1 M.down → t1.p = t.p → Off t.own w W → (∀ b, t1.own b → t.own b ∨ w.heap.size ≤ b) → Calls Tryz.prog g (#[.pointer (some ⟨t.p, 3, none⟩)] ++ caps) W fun e W' => e = .returned (.tuple #[]) ∧ Turned W W' t1 (f false M.down))
    (hfc : f false M.count = { f false M.down with ops := wrap64 (M.ops + 1) }) (hfo : (f false M.down).ops = M.ops) :
    Calls Tryz.prog 55 #[tptr t, .int .i64 0, .func (.func g) #[] caps] w fun e w' => e = .returned (.int .i64 (M.does 0 f).1) ∧ Turned w w' t (M.does 0 f).2 := by
  have c1 := reach_any t M 0 w h
  have hfa : M.fault 0 = 0 := by unfold Mt.fault; rw [if_pos (by omega), if_pos hon]
  rw [hfa] at c1
  have q7 := h.c7
  have q8 := h.c8
  have q9 := h.c9
  have f8 := h.fz 8 (by omega)
  unfold Mt.does
  rw [if_pos hfa, show decide ((0 : Int) = 1) = false from rfl]
  clear hfa
  by_cases hpl : M.pl = true
  · rw [hpl] at q7
    rw [(h.px hpl).1] at q8
    rw [(h.px hpl).2] at q9
    by_cases haf : M.af = 0
    · rw [if_pos ⟨hpl, haf⟩]
      have c2 := lose_any t M M.ke w h
      rw [haf] at q8
      obtain ⟨M', hM'⟩ : ∃ M', Hid (M.lose M.ke = M') := ⟨_, hide rfl⟩
      rw [hM'.out] at c2 ⊢
      obtain ⟨ke, hke⟩ : ∃ ke, Hid (M.ke = ke) := ⟨_, hide rfl⟩
      rw [hke.out] at c2 q9
      unfold tptr at *
      clear h hf hfc hfo hM' hke haf hpl hon
      go_enter Tryz.func55, Tryz.ntmps55
      go_wp2_with fail
      refine c1.mono ?_
      rintro e w' ⟨rfl, hw⟩
      obtain rfl := hw.symm
      clear c1 hw
      go_wp2_with fail
      refine c2.mono ?_
      rintro e w' ⟨rfl, hw⟩
      clear c2
      go_wp2_with fail
      go_ret
      exact ⟨rfl, hw⟩
    · rw [if_neg (fun q => haf q.2)]
      have HD := hide (down_turned h hpl haf)
      have hab := h.ok.pa hpl
      obtain ⟨z, hz⟩ : ∃ z, Hid (M.af = z) := ⟨_, hide rfl⟩
      rw [hz.out] at q8 HD haf hab
      have hz0 : (z == 0) = false := by simpa using haf
      have hz1 : 0 < z := by omega
      have hz2 : z ≤ 9223372036854775807 := hab.2
      unfold tptr at *
      clear h hz hpl hon hab haf
      go_enter Tryz.func55, Tryz.ntmps55
      go_wp2_with fail
      refine c1.mono ?_
      rintro e w' ⟨rfl, hw⟩
      obtain rfl := hw.symm
      clear c1 hw
      go_wp2_with fail
      obtain ⟨t1, p1, h1, o1, n1⟩ := HD.out
      have c3 := hf _ t1 h1 p1 o1 n1
      clear hf HD
      refine c3.mono ?_
      clear c3
      rintro e w3 ⟨rfl, t2, p2, h2, o2, n2⟩
      have hpp : t2.p = t.p := p2.trans p1
      have q10 := h2.c10
      have f10 := h2.fz 10 (by omega)
      rw [hpp] at q10 f10
      rw [hfo] at q10
      have HX : Hid (Turned w (w3.setCell ⟨t.p, 10, none⟩ (.int .i64 (wrap64 (M.ops + 1)))) t (f false M.count)) := hide (by
        have g1 := ops_turned h2
        rw [hfo, hpp] at g1
        rw [hfc]
        exact Turned.trans p1 o1 n1 (Turned.trans p2 o2 n2 g1))
      clear h2 h1 o1 n1 o2 n2 hpp p2 p1
      go_wp2_with fail
      go_ret
      exact ⟨rfl, HX.out⟩
  · rw [if_neg (fun q => hpl q.1)]
    have hpl : M.pl = false := by simpa using hpl
    rw [hpl] at q7
    have h1 := down_same h hpl
    have c3 := hf w t h1 rfl (Off.refl _ _) (fun _ q => .inl q)
    unfold tptr at *
    clear h hpl hon hf
    go_enter Tryz.func55, Tryz.ntmps55
    go_wp2_with fail
    refine c1.mono ?_
    rintro e w' ⟨rfl, hw⟩
    obtain rfl := hw.symm
    clear c1 hw
    go_wp2_with fail
    refine c3.mono ?_
    clear c3
    have p1 : t.p = t.p := rfl
    have o1 : Off t.own w w := Off.refl _ _
    have n1 : ∀ b, t.own b → t.own b ∨ w.heap.size ≤ b := fun _ q => .inl q
    rintro e w3 ⟨rfl, t2, p2, h2, o2, n2⟩
    have hpp : t2.p = t.p := p2.trans p1
    have q10 := h2.c10
    have f10 := h2.fz 10 (by omega)
    rw [hpp] at q10 f10
    rw [hfo] at q10
    have HX : Hid (Turned w (w3.setCell ⟨t.p, 10, none⟩ (.int .i64 (wrap64 (M.ops + 1)))) t (f false M.count)) := hide (by
      have g1 := ops_turned h2
      rw [hfo, hpp] at g1
      rw [hfc]
      exact Turned.trans p1 o1 n1 (Turned.trans p2 o2 n2 g1))
    clear h2 h1 o1 n1 o2 n2 hpp p2 p1
    go_wp2_with fail
    go_ret
    exact ⟨rfl, HX.out⟩
set_option maxRecDepth 100000 in
set_option maxHeartbeats 4000000 in
theorem operate_1 (t : Tv) (M : Mt) (g : Nat) (eg : ∀ args w, (callFunc g args).run Tryz.prog w = .ok (.enter g args) w) (caps : Array Value) (f : Bool → Mt → Mt) (w : World) (h : TapeAt w t M) (hon : M.on = true)
    (hf : ∀ W t1, TapeAt W t1 M.down → t1.p = t.p → Off t.own w W → (∀ b, t1.own b → t.own b ∨ w.heap.size ≤ b) → Calls Tryz.prog g (#[.pointer (some ⟨t.p, 5, none⟩)] ++ caps) W fun e W' => e = .returned (.tuple #[]) ∧ Turned W W' t1 (f true M.down))
    (hfc : f true M.count = { f true M.down with ops := wrap64 (M.ops + 1) }) (hfo : (f true M.down).ops = M.ops) :
    Calls Tryz.prog 55 #[tptr t, .int .i64 1, .func (.func g) #[] caps] w fun e w' => e = .returned (.int .i64 (M.does 1 f).1) ∧ Turned w w' t (M.does 1 f).2 := by
  have c1 := reach_any t M 1 w h
  have hfa : M.fault 1 = 0 := by unfold Mt.fault; rw [if_pos (by omega), if_pos hon]
  rw [hfa] at c1
  have q7 := h.c7
  have q8 := h.c8
  have q9 := h.c9
  have f8 := h.fz 8 (by omega)
  unfold Mt.does
  rw [if_pos hfa, show decide ((1 : Int) = 1) = true from rfl]
  clear hfa
  by_cases hpl : M.pl = true
  · rw [hpl] at q7
    rw [(h.px hpl).1] at q8
    rw [(h.px hpl).2] at q9
    by_cases haf : M.af = 0
    · rw [if_pos ⟨hpl, haf⟩]
      have c2 := lose_any t M M.ke w h
      rw [haf] at q8
      obtain ⟨M', hM'⟩ : ∃ M', Hid (M.lose M.ke = M') := ⟨_, hide rfl⟩
      rw [hM'.out] at c2 ⊢
      obtain ⟨ke, hke⟩ : ∃ ke, Hid (M.ke = ke) := ⟨_, hide rfl⟩
      rw [hke.out] at c2 q9
      unfold tptr at *
      clear h hf hfc hfo hM' hke haf hpl hon
      go_enter Tryz.func55, Tryz.ntmps55
      go_wp2_with fail
      refine c1.mono ?_
      rintro e w' ⟨rfl, hw⟩
      obtain rfl := hw.symm
      clear c1 hw
      go_wp2_with fail
      refine c2.mono ?_
      rintro e w' ⟨rfl, hw⟩
      clear c2
      go_wp2_with fail
      go_ret
      exact ⟨rfl, hw⟩
    · rw [if_neg (fun q => haf q.2)]
      have HD := hide (down_turned h hpl haf)
      have hab := h.ok.pa hpl
      obtain ⟨z, hz⟩ : ∃ z, Hid (M.af = z) := ⟨_, hide rfl⟩
      rw [hz.out] at q8 HD haf hab
      have hz0 : (z == 0) = false := by simpa using haf
      have hz1 : 0 < z := by omega
      have hz2 : z ≤ 9223372036854775807 := hab.2
      unfold tptr at *
      clear h hz hpl hon hab haf
      go_enter Tryz.func55, Tryz.ntmps55
      go_wp2_with fail
      refine c1.mono ?_
      rintro e w' ⟨rfl, hw⟩
      obtain rfl := hw.symm
      clear c1 hw
      go_wp2_with fail
      obtain ⟨t1, p1, h1, o1, n1⟩ := HD.out
      have c3 := hf _ t1 h1 p1 o1 n1
      clear hf HD
      refine c3.mono ?_
      clear c3
      rintro e w3 ⟨rfl, t2, p2, h2, o2, n2⟩
      have hpp : t2.p = t.p := p2.trans p1
      have q10 := h2.c10
      have f10 := h2.fz 10 (by omega)
      rw [hpp] at q10 f10
      rw [hfo] at q10
      have HX : Hid (Turned w (w3.setCell ⟨t.p, 10, none⟩ (.int .i64 (wrap64 (M.ops + 1)))) t (f true M.count)) := hide (by
        have g1 := ops_turned h2
        rw [hfo, hpp] at g1
        rw [hfc]
        exact Turned.trans p1 o1 n1 (Turned.trans p2 o2 n2 g1))
      clear h2 h1 o1 n1 o2 n2 hpp p2 p1
      go_wp2_with fail
      go_ret
      exact ⟨rfl, HX.out⟩
  · rw [if_neg (fun q => hpl q.1)]
    have hpl : M.pl = false := by simpa using hpl
    rw [hpl] at q7
    have h1 := down_same h hpl
    have c3 := hf w t h1 rfl (Off.refl _ _) (fun _ q => .inl q)
    unfold tptr at *
    clear h hpl hon hf
    go_enter Tryz.func55, Tryz.ntmps55
    go_wp2_with fail
    refine c1.mono ?_
    rintro e w' ⟨rfl, hw⟩
    obtain rfl := hw.symm
    clear c1 hw
    go_wp2_with fail
    refine c3.mono ?_
    clear c3
    have p1 : t.p = t.p := rfl
    have o1 : Off t.own w w := Off.refl _ _
    have n1 : ∀ b, t.own b → t.own b ∨ w.heap.size ≤ b := fun _ q => .inl q
    rintro e w3 ⟨rfl, t2, p2, h2, o2, n2⟩
    have hpp : t2.p = t.p := p2.trans p1
    have q10 := h2.c10
    have f10 := h2.fz 10 (by omega)
    rw [hpp] at q10 f10
    rw [hfo] at q10
    have HX : Hid (Turned w (w3.setCell ⟨t.p, 10, none⟩ (.int .i64 (wrap64 (M.ops + 1)))) t (f true M.count)) := hide (by
      have g1 := ops_turned h2
      rw [hfo, hpp] at g1
      rw [hfc]
      exact Turned.trans p1 o1 n1 (Turned.trans p2 o2 n2 g1))
    clear h2 h1 o1 n1 o2 n2 hpp p2 p1
    go_wp2_with fail
    go_ret
    exact ⟨rfl, HX.out⟩
set_option maxRecDepth 100000 in
set_option maxHeartbeats 4000000 in
theorem operate_no (t : Tv) (M : Mt) (area : Int) (g : Nat) (caps : Array Value) (f : Bool → Mt → Mt) (w : World) (h : TapeAt w t M) (hfa : M.fault area ≠ 0) :
    Calls Tryz.prog 55 #[tptr t, .int .i64 area, .func (.func g) #[] caps] w fun e w' => e = .returned (.int .i64 (M.does area f).1) ∧ Turned w w' t (M.does area f).2 := by
  have c1 := reach_any t M area w h
  unfold Mt.does
  rw [if_neg hfa]
  have HT : Hid (Turned w w t M) := hide (Turned.same h (Below.refl _ _))
  obtain ⟨z, hz⟩ : ∃ z, Hid (M.fault area = z) := ⟨_, hide rfl⟩
  rw [hz.out] at c1 hfa ⊢
  have hz0 : (z == 0) = false := by simpa using hfa
  unfold tptr at *
  clear h hz hfa
  go_enter Tryz.func55, Tryz.ntmps55
  go_wp2_with fail
  refine c1.mono ?_
  rintro e w' ⟨rfl, hw⟩
  obtain rfl := hw.symm
  clear c1 hw
  go_wp2_with fail
  go_ret
  exact ⟨rfl, HT.out⟩
theorem operate_any (t : Tv) (M : Mt) (area : Int) (g : Nat) (eg : ∀ args w, (callFunc g args).run Tryz.prog w = .ok (.enter g args) w) (caps : Array Value) (f : Bool → Mt → Mt) (w : World) (h : TapeAt w t M)
    (hf : M.fault area = 0 → ∀ k, ∀ W t1, TapeAt W t1 M.down → t1.p = t.p → Off t.own w W → (∀ b, t1.own b → t.own b ∨ w.heap.size ≤ b) → Calls Tryz.prog g (#[areaP t1 k] ++ caps) W fun e W' => e = .returned (.tuple #[]) ∧ Turned W W' t1 (f k M.down))
    (hfc : ∀ k, f k M.count = { f k M.down with ops := wrap64 (M.ops + 1) }) (hfo : ∀ k, (f k M.down).ops = M.ops) :
    Calls Tryz.prog 55 #[tptr t, .int .i64 area, .func (.func g) #[] caps] w fun e w' => e = .returned (.int .i64 (M.does area f).1) ∧ Turned w w' t (M.does area f).2 := by
  by_cases hfa : M.fault area = 0
  · have hc : (area = 0 ∨ area = 1) ∧ M.on = true := by
      unfold Mt.fault at hfa
      split at hfa
      · rename_i q
        refine ⟨q, ?_⟩
        split at hfa
        · assumption
        · cases hfa
      · cases hfa
    have hf' := hf hfa
    rcases hc.1 with rfl | rfl
    · exact operate_0 t M g eg caps f w h hc.2 (fun W t1 k1 k2 k3 k4 => by have := hf' false W t1 k1 k2 k3 k4; unfold areaP offA at this; rw [k2] at this; exact this) (hfc false) (hfo false)
    · exact operate_1 t M g eg caps f w h hc.2 (fun W t1 k1 k2 k3 k4 => by have := hf' true W t1 k1 k2 k3 k4; unfold areaP offA at this; rw [k2] at this; exact this) (hfc true) (hfo true)
  · exact operate_no t M area g caps f w h hfa
theorem eg_sync (args : Array Value) (w : World) : (callFunc 72 args).run Tryz.prog w = .ok (.enter 72 args) w := by go_simp
theorem eg_clear (args : Array Value) (w : World) : (callFunc 60 args).run Tryz.prog w = .ok (.enter 60 args) w := by go_simp
theorem eg_app (args : Array Value) (w : World) : (callFunc 56 args).run Tryz.prog w = .ok (.enter 56 args) w := by go_simp
set_option maxRecDepth 100000 in
set_option maxHeartbeats 2000000 in
theorem tsync_any (t : Tv) (M : Mt) (area : Int) (w : World) (h : TapeAt w t M) :
    Calls Tryz.prog 49 #[tptr t, .int .i64 area] w fun e w' => e = .returned (.int .i64 (M.sync area).1) ∧ Turned w w' t (M.sync area).2 := by
  have c1 := operate_any t M area 72 eg_sync #[] Mt.settle w h (fun _ k W t1 k1 _ _ _ => sync1_any t1 M.down k W k1) (fun k => by cases k <;> rfl) (fun k => by cases k <;> rfl)
  unfold Mt.sync
  generalize M.does area Mt.settle = r at *
  unfold tptr at *
  clear h
  go_enter Tryz.func49, Tryz.ntmps49
  go_wp2_with fail
  refine c1.mono ?_
  rintro e w' ⟨rfl, hw⟩
  clear c1
  go_wp2_with fail
  go_ret
  exact ⟨rfl, hw⟩
set_option maxRecDepth 100000 in
set_option maxHeartbeats 2000000 in
theorem tclear_any (t : Tv) (M : Mt) (area : Int) (w : World) (h : TapeAt w t M) :
    Calls Tryz.prog 31 #[tptr t, .int .i64 area] w fun e w' => e = .returned (.int .i64 (M.empty area).1) ∧ Turned w w' t (M.empty area).2 := by
  have c1 := operate_any t M area 60 eg_clear #[] Mt.clear w h (fun _ k W t1 k1 _ _ _ => clear1_any t1 M.down k W k1) (fun k => by cases k <;> rfl) (fun k => by cases k <;> rfl)
  unfold Mt.empty
  generalize M.does area Mt.clear = r at *
  unfold tptr at *
  clear h
  go_enter Tryz.func31, Tryz.ntmps31
  go_wp2_with fail
  refine c1.mono ?_
  rintro e w' ⟨rfl, hw⟩
  clear c1
  go_wp2_with fail
  go_ret
  exact ⟨rfl, hw⟩
end Go.Proofs.YtfkchnjbbbhmjaaGreat
namespace Go.Proofs.YtfkchnjbbbhmjaaGreat
open Go.RowKit
theorem RowAt.off {F : Nat → Prop} {w w' : World} {a : Option Addr} {zs : List Int} (h : RowAt w a zs) (ho : Off F w w') (hF : zs = [] ∨ ∀ x, a = some x → ¬ F x.block) : RowAt w' a zs := by
  refine ⟨h.1, h.2.1, ?_⟩
  rcases h.2.2 with q | ⟨b, off, rfl, h1, h2⟩
  · exact .inl q
  · rcases hF with q | q
    · exact .inl q
    · exact .inr ⟨b, off, rfl, Nat.lt_of_lt_of_le h1 ho.size, range_at h2 (ho.2 b h1 (q _ rfl))⟩
theorem Turned.below_l {w w1 w2 : World} {t : Tv} {M : Mt} (hb : Below w.heap.size w w1) (h : Turned w1 w2 t M) : Turned w w2 t M :=
  Turned.trans rfl (Off.of_below hb) (fun _ q => .inl q) h
/-- bytes that lie beside the tape -/
def Beside (t : Tv) (a : Option Addr) (zs : List Int) : Prop := zs = [] ∨ ∀ x, a = some x → ¬ t.own x.block
set_option maxRecDepth 100000 in
set_option maxHeartbeats 4000000 in
theorem tappend_any (t : Tv) (M : Mt) (area : Int) (a : Option Addr) (cap : Nat) (zs : List Int) (w : World) (h : TapeAt w t M) (hz : RowAt w a zs) (hbe : Beside t a zs) :
    Calls Tryz.prog 29 #[tptr t, .int .i64 area, .slice a zs.length cap] w fun e w' => e = .returned (.int .i64 (M.append area zs).1) ∧ Turned w w' t (M.append area zs).2 := by
  have hB1 : Below w.heap.size w (w.alloc (.cells #[.slice a zs.length cap] 35)) := (Below.refl _ _).alloc (Nat.le_refl _) _
  have hX1 : (w.alloc (.cells #[.slice a zs.length cap] 35)).cell? ⟨w.heap.size, 0, none⟩ = some (.slice a zs.length cap) := range_new w #[.slice a zs.length cap] 35 0 _ rfl
  have hl : zs.length ≤ 9223372036854775807 := by have := hz.1; unfold maxLen at this; omega
  have hXo : ¬ t.own w.heap.size := fun q => by have := h.own_lt q; omega
  have c1 := fun w0 (hb : Below w.heap.size w w0) => reach_any t M area w0 (h.below hb)
  have c2 := fun w0 (hb : Below w.heap.size w w0) => used_any t M w0 (h.below hb)
  have HD : Hid (¬ M.room - ((M.a.length : Int) + M.b.length) < zs.length → ∀ w0, Below w.heap.size w w0 → w0.cell? ⟨w.heap.size, 0, none⟩ = some (.slice a zs.length cap) →
      Calls Tryz.prog 55 #[tptr t, .int .i64 area, .func (.func 56) #[] #[.pointer (some ⟨w.heap.size, 0, none⟩)]] w0 fun e w' => e = .returned (.int .i64 (M.does area (Mt.put zs)).1) ∧ Turned w0 w' t (M.does area (Mt.put zs)).2) := hide (fun hroom w0 hb hX =>
    operate_any t M area 56 eg_app #[.pointer (some ⟨w.heap.size, 0, none⟩)] (Mt.put zs) w0 (h.below hb) (fun _ k W t1 k1 k2 k3 k4 => by
      have hXl : w.heap.size < w0.heap.size := World.block_lt_of_cell? w0 _ hX
      refine app1_any t1 M.down k w.heap.size a cap zs W k1 (cell_at hX (k3.2 _ hXl hXo)) (fun q => ?_) ((hz.below hb).off k3 hbe) ?_
      · rcases k4 _ q with q1 | q1
        · exact hXo q1
        · omega
      · exact k1.ok.put zs hz.2.1 hroom k) (fun k => by cases k <;> rfl) (fun k => by cases k <;> rfl))
  have HS : Hid (∀ w', Below w.heap.size w w' → Turned w w' t M) := hide (fun w' hb => Turned.same h hb)
  have q2 := fun w0 (hb : Below w.heap.size w w0) => (h.below hb).c2
  have hrm := h.ok.rm
  have hrl := h.ok.rl
  obtain ⟨W1, hW1⟩ : ∃ W1, w.alloc (.cells #[.slice a zs.length cap] 35) = W1 := ⟨_, rfl⟩
  rw [hW1] at hB1 hX1
  clear h hz hbe hXo
  unfold tptr at *
  unfold Mt.append
  by_cases hfa : M.fault area = 0
  · rw [hfa] at c1
    rw [if_pos hfa]
    clear hfa
    obtain ⟨u, hu⟩ : ∃ u, Hid (((M.a.length : Int) + M.b.length) = u) := ⟨_, hide rfl⟩
    have hu0 : 0 ≤ u := by rw [← hu.out]; omega
    rw [hu.out] at HD hrm ⊢
    simp only [hu.out] at c2
    clear hu
    obtain ⟨rm, hrmE⟩ : ∃ rm, Hid (M.room = rm) := ⟨_, hide rfl⟩
    rw [hrmE.out] at HD hrm hrl ⊢
    simp only [hrmE.out] at q2
    clear hrmE
    by_cases hroom : rm - u < zs.length
    · rw [if_pos hroom]
      have HR := hide hroom
      clear HD hroom
      go_enter Tryz.func29, Tryz.ntmps29
      go_wp2_with fail
      try rw [hW1]
      refine (c1 W1 hB1).mono ?_
      rintro e w' ⟨rfl, hw⟩
      obtain rfl := hw.symm
      clear c1 hw hW1
      go_wp2_with fail
      obtain ⟨w8, hw8⟩ : ∃ w8, W1.drew = w8 := ⟨_, rfl⟩
      have B8 : Below w.heap.size w w8 := by rw [← hw8]; exact hB1.drew
      have x8 : w8.cell? ⟨w.heap.size, 0, none⟩ = some (.slice a zs.length cap) := by rw [← hw8]; exact hX1
      have r8 := q2 w8 B8
      have hwr : IntKind.i64.wrap (rm - u) = rm - u := by rw [IntKind.wrap_i64]; omega
      refine hs_begin (S := fun w' => w' = w8) 10 rfl (by kernel_rfl) ?_
      rw [hw8]
      clear hw8 hX1 hB1
      have hS : (fun w' => w' = w8) w8 := rfl
      refine hs_take (i := 0) (d := some 14) (v := ?_) rfl (by kernel_rfl) (by kernel_rfl) (by kernel_rfl) (by rfl) ?_ hS rfl ?_
      rotate_left
      · intro w' hw
        obtain rfl : w8 = w' := hw.symm; have hc := x8
        go_simp
        try with_reducible rfl
      simp only [Act.put, List.setIfInBounds_toArray, List.set_cons_zero, List.set_cons_succ]
      refine hs_take (i := 1) (d := some 15) (v := ?_) rfl (by kernel_rfl) (by kernel_rfl) (by kernel_rfl) (by rfl) ?_ hS rfl ?_
      rotate_left
      · intro w' hw
        go_simp
        try with_reducible rfl
      simp only [Act.put, List.setIfInBounds_toArray, List.set_cons_zero, List.set_cons_succ]
      refine hs_take (i := 2) (d := some 16) (v := ?_) rfl (by kernel_rfl) (by kernel_rfl) (by kernel_rfl) (by rfl) ?_ hS rfl ?_
      rotate_left
      · intro w' hw
        go_simp
        try with_reducible rfl
      simp only [Act.put, List.setIfInBounds_toArray, List.set_cons_zero, List.set_cons_succ]
      refine hs_take (i := 3) (d := some 17) (v := ?_) rfl (by kernel_rfl) (by kernel_rfl) (by kernel_rfl) (by rfl) ?_ hS rfl ?_
      rotate_left
      · intro w' hw
        go_simp
        try with_reducible rfl
      simp only [Act.put, List.setIfInBounds_toArray, List.set_cons_zero, List.set_cons_succ]
      refine hs_take (i := 4) (d := some 18) (v := ?_) rfl (by kernel_rfl) (by kernel_rfl) (by kernel_rfl) (by rfl) ?_ hS rfl ?_
      rotate_left
      · intro w' hw
        go_simp
        try with_reducible rfl
      simp only [Act.put, List.setIfInBounds_toArray, List.set_cons_zero, List.set_cons_succ]
      refine hs_take (i := 5) (d := some 19) (v := ?_) rfl (by kernel_rfl) (by kernel_rfl) (by kernel_rfl) (by rfl) ?_ hS rfl ?_
      rotate_left
      · intro w' hw
        obtain rfl : w8 = w' := hw.symm; have hc := r8
        go_simp
        try with_reducible rfl
      simp only [Act.put, List.setIfInBounds_toArray, List.set_cons_zero, List.set_cons_succ]
      refine hs_take (i := 6) (d := some 20) (v := ?_) rfl (by kernel_rfl) (by kernel_rfl) (by kernel_rfl) (by rfl) ?_ hS rfl ?_
      rotate_left
      · intro w' hw
        go_simp
        try with_reducible rfl
      simp only [Act.put, List.setIfInBounds_toArray, List.set_cons_zero, List.set_cons_succ]
      refine hs_call (i := 7) (d := some 21) rfl (by kernel_rfl) (by rfl) (by go_simp; first | done | exact ⟨rfl, rfl⟩ | with_reducible rfl) rfl ?_
      refine (c2 w8 B8).mono ?_
      rintro e' w9 ⟨rfl, hx⟩
      obtain rfl := hx.symm
      clear hx
      refine ⟨_, rfl, rfl, ?_⟩
      simp only [Act.put, List.setIfInBounds_toArray, List.set_cons_zero, List.set_cons_succ]
      refine hs_take (i := 8) (d := some 22) (v := ?_) rfl (by kernel_rfl) (by kernel_rfl) (by kernel_rfl) (by rfl) ?_ hS rfl ?_
      rotate_left
      · intro w' hw
        go_simp
        try with_reducible rfl
      simp only [Act.put, List.setIfInBounds_toArray, List.set_cons_zero, List.set_cons_succ]
      have hroom := HR.out
      refine hs_take (i := 9) (d := some 23) (v := .bool true) rfl (by kernel_rfl) (by kernel_rfl) (by kernel_rfl) (by rfl) (fun w' hw => by go_simp) hS rfl ?_
      simp only [Act.put, List.setIfInBounds_toArray, List.set_cons_zero, List.set_cons_succ]
      refine hs_done (by kernel_rfl) ?_
      clear hS hwr hroom c2 q2
      go_wp2_with fail
      go_ret
      exact ⟨rfl, HS.out _ B8⟩
    · rw [if_neg hroom]
      have HR := hide hroom
      have c3' := fun w0 hb hx => HD.out hroom w0 hb hx
      clear HD hroom
      generalize M.does area (Mt.put zs) = rr at *
      go_enter Tryz.func29, Tryz.ntmps29
      go_wp2_with fail
      try rw [hW1]
      refine (c1 W1 hB1).mono ?_
      rintro e w' ⟨rfl, hw⟩
      obtain rfl := hw.symm
      clear c1 hw hW1
      go_wp2_with fail
      obtain ⟨w8, hw8⟩ : ∃ w8, W1.drew = w8 := ⟨_, rfl⟩
      have B8 : Below w.heap.size w w8 := by rw [← hw8]; exact hB1.drew
      have x8 : w8.cell? ⟨w.heap.size, 0, none⟩ = some (.slice a zs.length cap) := by rw [← hw8]; exact hX1
      have r8 := q2 w8 B8
      have hwr : IntKind.i64.wrap (rm - u) = rm - u := by rw [IntKind.wrap_i64]; omega
      refine hs_begin (S := fun w' => w' = w8) 10 rfl (by kernel_rfl) ?_
      rw [hw8]
      clear hw8 hX1 hB1
      have hS : (fun w' => w' = w8) w8 := rfl
      refine hs_take (i := 0) (d := some 14) (v := ?_) rfl (by kernel_rfl) (by kernel_rfl) (by kernel_rfl) (by rfl) ?_ hS rfl ?_
      rotate_left
      · intro w' hw
        obtain rfl : w8 = w' := hw.symm; have hc := x8
        go_simp
        try with_reducible rfl
      simp only [Act.put, List.setIfInBounds_toArray, List.set_cons_zero, List.set_cons_succ]
      refine hs_take (i := 1) (d := some 15) (v := ?_) rfl (by kernel_rfl) (by kernel_rfl) (by kernel_rfl) (by rfl) ?_ hS rfl ?_
      rotate_left
      · intro w' hw
        go_simp
        try with_reducible rfl
      simp only [Act.put, List.setIfInBounds_toArray, List.set_cons_zero, List.set_cons_succ]
      refine hs_take (i := 2) (d := some 16) (v := ?_) rfl (by kernel_rfl) (by kernel_rfl) (by kernel_rfl) (by rfl) ?_ hS rfl ?_
      rotate_left
      · intro w' hw
        go_simp
        try with_reducible rfl
      simp only [Act.put, List.setIfInBounds_toArray, List.set_cons_zero, List.set_cons_succ]
      refine hs_take (i := 3) (d := some 17) (v := ?_) rfl (by kernel_rfl) (by kernel_rfl) (by kernel_rfl) (by rfl) ?_ hS rfl ?_
      rotate_left
      · intro w' hw
        go_simp
        try with_reducible rfl
      simp only [Act.put, List.setIfInBounds_toArray, List.set_cons_zero, List.set_cons_succ]
      refine hs_take (i := 4) (d := some 18) (v := ?_) rfl (by kernel_rfl) (by kernel_rfl) (by kernel_rfl) (by rfl) ?_ hS rfl ?_
      rotate_left
      · intro w' hw
        go_simp
        try with_reducible rfl
      simp only [Act.put, List.setIfInBounds_toArray, List.set_cons_zero, List.set_cons_succ]
      refine hs_take (i := 5) (d := some 19) (v := ?_) rfl (by kernel_rfl) (by kernel_rfl) (by kernel_rfl) (by rfl) ?_ hS rfl ?_
      rotate_left
      · intro w' hw
        obtain rfl : w8 = w' := hw.symm; have hc := r8
        go_simp
        try with_reducible rfl
      simp only [Act.put, List.setIfInBounds_toArray, List.set_cons_zero, List.set_cons_succ]
      refine hs_take (i := 6) (d := some 20) (v := ?_) rfl (by kernel_rfl) (by kernel_rfl) (by kernel_rfl) (by rfl) ?_ hS rfl ?_
      rotate_left
      · intro w' hw
        go_simp
        try with_reducible rfl
      simp only [Act.put, List.setIfInBounds_toArray, List.set_cons_zero, List.set_cons_succ]
      refine hs_call (i := 7) (d := some 21) rfl (by kernel_rfl) (by rfl) (by go_simp; first | done | exact ⟨rfl, rfl⟩ | with_reducible rfl) rfl ?_
      refine (c2 w8 B8).mono ?_
      rintro e' w9 ⟨rfl, hx⟩
      obtain rfl := hx.symm
      clear hx
      refine ⟨_, rfl, rfl, ?_⟩
      simp only [Act.put, List.setIfInBounds_toArray, List.set_cons_zero, List.set_cons_succ]
      refine hs_take (i := 8) (d := some 22) (v := ?_) rfl (by kernel_rfl) (by kernel_rfl) (by kernel_rfl) (by rfl) ?_ hS rfl ?_
      rotate_left
      · intro w' hw
        go_simp
        try with_reducible rfl
      simp only [Act.put, List.setIfInBounds_toArray, List.set_cons_zero, List.set_cons_succ]
      have c3 := c3' w8 B8 x8
      have hroom := HR.out
      refine hs_take (i := 9) (d := some 23) (v := .bool false) rfl (by kernel_rfl) (by kernel_rfl) (by kernel_rfl) (by rfl) (fun w' hw => by go_simp) hS rfl ?_
      simp only [Act.put, List.setIfInBounds_toArray, List.set_cons_zero, List.set_cons_succ]
      refine hs_done (by kernel_rfl) ?_
      clear hS hwr hroom c2 q2 HS c3'
      go_wp2_with fail
      refine c3.mono ?_
      rintro e w' ⟨rfl, hw⟩
      clear c3
      go_wp2_with fail
      go_ret
      exact ⟨rfl, Turned.below_l B8 hw⟩
  · rw [if_neg hfa]
    obtain ⟨z, hz⟩ : ∃ z, Hid (M.fault area = z) := ⟨_, hide rfl⟩
    simp only [hz.out] at c1
    rw [hz.out] at hfa ⊢
    have hz0 : (z == 0) = false := by simpa using hfa
    clear hz hfa HD c2
    go_enter Tryz.func29, Tryz.ntmps29
    go_wp2_with fail
    try rw [hW1]
    refine (c1 W1 hB1).mono ?_
    rintro e w' ⟨rfl, hw⟩
    obtain rfl := hw.symm
    clear c1 hw hW1
    go_wp2_with fail
    go_ret
    exact ⟨rfl, HS.out _ hB1⟩
theorem clone_src {w : World} {a : Option Addr} {zs : List Int} (h : RowAt w a zs) : RowAt w a zs := h
set_option maxRecDepth 100000 in
set_option maxHeartbeats 2000000 in
theorem clone_any (a : Option Addr) (cap : Nat) (zs : List Int) (w : World) (h : RowAt w a zs) (hn : zs.length ≤ 1073741824) :
    Calls Tryz.prog 81 #[.slice a zs.length cap] w fun e w' => ∃ v, e = .returned v ∧ w'.ownsRow w.heap.size 5 1 v zs.length (v8 zs) ∧ Below w.heap.size w w' := by
  obtain ⟨i1, hi1, hiz, his, hib⟩ := info_parts info8
  cases a with
  | none =>
    have hnil : zs = [] := by
      rcases h.2.2 with q | ⟨b, off, hx, _⟩
      · exact q
      · cases hx
    subst hnil
    have hn := fun w => Lib.run_eql_slice_nil (P := Tryz.prog) w 35 5 none 0 cap 0 0 Tryz.underlying35
    go_enter Tryz.func81, Tryz.ntmps81
    go_wp2
    go_ret
    exact ⟨_, rfl, World.ownsRow_nil _ _ _ _, Below.refl _ _⟩
  | some x =>
    have hb1 : Below w.heap.size w (w.alloc (.cells #[] 5)) := (Below.refl _ _).alloc (Nat.le_refl _) _
    have hown1 : (w.alloc (.cells #[] 5)).ownsRow w.heap.size 5 1 (.slice (some ⟨w.heap.size, 0, none⟩) 0 0) 0 [] :=
      ⟨rfl, .inr ⟨w.heap.size, 0, #[], rfl, Nat.le_refl _, heap_alloc_new w _, Nat.le_refl _, by unfold maxLen; omega, rfl, rfl⟩⟩
    have hsrc := (h.below hb1).src cap
    have hn1 := fun w => Lib.run_eql_slice_nil (P := Tryz.prog) w 35 5 (some x) zs.length cap 0 0 Tryz.underlying35
    go_enter Tryz.func81, Tryz.ntmps81
    go_wp2_with (at_builtin; refine wpList_append_own_src _ rfl _ _ 35 35 rfl w.heap.size 5 i1 (.int .u8 0) 1 1 Tryz.underlying35 hi1 hiz his hib rfl _ 0 [] rfl hown1 (.slice (some x) zs.length cap) zs.length (v8 zs) rfl hsrc ?c1 ?c2 ?c3 ?_)
    case c1 => unfold maxLen; omega
    case c2 => omega
    case c3 => exact hb1.size
    intro v2 w2 hown2 hgrow2
    have hb2 : Below w.heap.size w w2 := hb1.grown hgrow2 hb1.size (fun k hk => (hown1.lt k hk).1)
    go_wp2
    go_ret
    exact ⟨_, rfl, by simpa using hown2, hb2⟩
set_option maxRecDepth 100000 in
set_option maxHeartbeats 2000000 in
theorem copied_any (p o : Nat) (a : Option Addr) (cap : Nat) (zs : List Int) (w : World) (hc : w.cell? ⟨p, o, none⟩ = some (.slice a zs.length cap)) (h : RowAt w a zs) (hn : zs.length ≤ 1073741824) :
    Calls Tryz.prog 67 #[.pointer (some ⟨p, o, none⟩)] w fun e w' => ∃ v, e = .returned v ∧ w'.ownsRow w.heap.size 5 1 v zs.length (v8 zs) ∧ Below w.heap.size w w' := by
  have c1 := clone_any a cap zs w h hn
  clear h
  go_enter Tryz.func67, Tryz.ntmps67
  go_wp2_with fail
  refine c1.mono ?_
  rintro e w' ⟨v, rfl, hw⟩
  clear c1
  go_wp2_with fail
  go_ret
  exact ⟨_, rfl, hw⟩
theorem TapeAt.row {w : World} {t : Tv} {M : Mt} (h : TapeAt w t M) (k : Bool) : ∃ a cap, t.v k = .slice a (M.get k).length cap ∧ RowAt w a (M.get k) ∧ (M.get k).length ≤ 1073741824 := by
  have h1 := h.ok.rm
  have h2 := h.ok.rl
  have hl : (M.get k).length ≤ 1073741824 := by cases k <;> simp only [Mt.get] <;> omega
  have hz : ∀ z ∈ M.get k, 0 ≤ z ∧ z < 256 := by
    cases k
    · exact h.ok.za
    · exact h.ok.zb
  obtain ⟨a, cap, h1, -, -, h2⟩ := own_bytes (h.ok' k) hz (by unfold maxLen; omega)
  exact ⟨a, cap, h1, h2, hl⟩
/-- what Read tells -/
def Mt.read (M : Mt) (area : Int) : List Int := if M.fault area = 0 then M.get (decide (area = 1)) else []
theorem Mt.fault_ok {M : Mt} {area : Int} (hfa : M.fault area = 0) : (area = 0 ∨ area = 1) ∧ M.on = true := by
  unfold Mt.fault at hfa
  split at hfa
  · rename_i q
    refine ⟨q, ?_⟩
    split at hfa
    · assumption
    · cases hfa
  · cases hfa
set_option maxRecDepth 100000 in
set_option maxHeartbeats 2000000 in
theorem tread_any (t : Tv) (M : Mt) (area : Int) (w : World) (h : TapeAt w t M) :
    Calls Tryz.prog 41 #[tptr t, .int .i64 area] w fun e w' => ∃ v, e = .returned (.tuple #[v, .int .i64 (M.fault area)]) ∧ w'.ownsRow w.heap.size 5 1 v (M.read area).length (v8 (M.read area)) ∧ Below w.heap.size w w' := by
  have c1 := reach_any t M area w h
  by_cases hfa : M.fault area = 0
  · have hr : M.read area = M.get (decide (area = 1)) := if_pos hfa
    rw [hr]
    rw [hfa] at c1 ⊢
    obtain ⟨a, cap, e1, e2, e3⟩ := h.row (decide (area = 1))
    have hc := h.ck (decide (area = 1))
    rw [e1] at hc
    have c2 := copied_any t.p (offA (decide (area = 1))) a cap _ w hc e2 e3
    have hx := (Mt.fault_ok hfa).1
    unfold tptr at *
    clear h hr hfa e1 e2 e3 hc
    rcases hx with rfl | rfl
    · rw [show offA (decide ((0 : Int) = 1)) = 3 from rfl, show decide ((0 : Int) = 1) = false from rfl] at c2
      rw [show decide ((0 : Int) = 1) = false from rfl]
      go_enter Tryz.func41, Tryz.ntmps41
      go_wp2_with fail
      refine c1.mono ?_
      rintro e w' ⟨rfl, hw⟩
      obtain rfl := hw.symm
      clear c1 hw
      go_wp2_with fail
      refine c2.mono ?_
      rintro e w' ⟨v, rfl, hw⟩
      clear c2
      go_wp2_with fail
      go_ret2
      exact ⟨_, rfl, hw⟩
    · rw [show offA (decide ((1 : Int) = 1)) = 5 from rfl, show decide ((1 : Int) = 1) = true from rfl] at c2
      rw [show decide ((1 : Int) = 1) = true from rfl]
      go_enter Tryz.func41, Tryz.ntmps41
      go_wp2_with fail
      refine c1.mono ?_
      rintro e w' ⟨rfl, hw⟩
      obtain rfl := hw.symm
      clear c1 hw
      go_wp2_with fail
      refine c2.mono ?_
      rintro e w' ⟨v, rfl, hw⟩
      clear c2
      go_wp2_with fail
      go_ret2
      exact ⟨_, rfl, hw⟩
  · have hr : M.read area = [] := if_neg hfa
    rw [hr]
    obtain ⟨z, hz⟩ : ∃ z, Hid (M.fault area = z) := ⟨_, hide rfl⟩
    rw [hz.out] at c1 hfa ⊢
    have hz0 : (z == 0) = false := by simpa using hfa
    have HP : Hid (w.ownsRow w.heap.size 5 1 (.slice none 0 0) 0 (v8 []) ∧ Below w.heap.size w w) := hide ⟨World.ownsRow_nil _ _ _ _, Below.refl _ _⟩
    unfold tptr at *
    clear h hr hfa hz
    go_enter Tryz.func41, Tryz.ntmps41
    go_wp2_with fail
    refine c1.mono ?_
    rintro e w' ⟨rfl, hw⟩
    obtain rfl := hw.symm
    clear c1 hw
    go_wp2_with fail
    go_ret2
    exact ⟨_, rfl, HP.out⟩
end Go.Proofs.YtfkchnjbbbhmjaaGreat
namespace Go.Proofs.YtfkchnjbbbhmjaaGreat
open Go.RowKit
/-- a tape at p; none of its blocks is one of A's -/
def Live (A : Nat → Prop) (w : World) (p : Nat) (M : Mt) : Prop := ∃ t : Tv, t.p = p ∧ TapeAt w t M ∧ ∀ b, t.own b → ¬ A b
theorem Live.ok {A : Nat → Prop} {w : World} {p : Nat} {M : Mt} (h : Live A w p M) : M.ok := by
  obtain ⟨t, -, h, -⟩ := h
  exact h.ok
theorem Live.lt {A : Nat → Prop} {w : World} {p : Nat} {M : Mt} (h : Live A w p M) : p < w.heap.size := by
  obtain ⟨t, rfl, h, -⟩ := h
  exact h.mono_x
theorem Live.below {A : Nat → Prop} {w w' : World} {p : Nat} {M : Mt} (h : Live A w p M) (hb : Below w.heap.size w w') : Live A w' p M := by
  obtain ⟨t, e, h, k⟩ := h
  exact ⟨t, e, h.below hb, k⟩
theorem Live.narrow {A A' : Nat → Prop} {w : World} {p : Nat} {M : Mt} (h : Live A w p M) (hA : ∀ b, A' b → A b) : Live A' w p M := by
  obtain ⟨t, e, h, k⟩ := h
  exact ⟨t, e, h, fun b q q1 => k b q (hA b q1)⟩
/-- what else was laid stays, too -/
def More (A : Nat → Prop) (w w1 : World) (b : Nat) : Prop := A b ∨ (w.heap.size ≤ b ∧ b < w1.heap.size)
theorem Live.widen {A : Nat → Prop} {w w1 : World} {p : Nat} {M : Mt} (h : Live A w p M) (hb : Below w.heap.size w w1) : Live (More A w w1) w1 p M := by
  obtain ⟨t, e, h, k⟩ := h
  refine ⟨t, e, h.below hb, fun b q q1 => ?_⟩
  rcases q1 with q1 | q1
  · exact k b q q1
  · have := h.own_lt q; omega
theorem More.lt {A : Nat → Prop} {w w1 : World} (hA : ∀ b, A b → b < w.heap.size) (hb : w.heap.size ≤ w1.heap.size) : ∀ b, More A w w1 b → b < w1.heap.size := by
  rintro b (q | q)
  · have := hA b q; omega
  · exact q.2
/-- an unlike tape's part -/
theorem Live.off {A F : Nat → Prop} {w w' : World} {p : Nat} {M : Mt} (h : Live A w p M) (ho : Off F w w') (hF : ∀ b, F b → A b) : Live A w' p M := by
  obtain ⟨t, e, h, k⟩ := h
  exact ⟨t, e, h.off ho (fun b q q1 => k b q (hF b q1)), k⟩
theorem Live.turn {A : Nat → Prop} {w w' : World} {t : Tv} {M' : Mt} (hk : ∀ b, t.own b → ¬ A b) (hA : ∀ b, A b → b < w.heap.size) (h : Turned w w' t M') : Live A w' t.p M' ∧ Off (fun b => ¬ A b) w w' := by
  obtain ⟨t', e1, e2, e3, e4⟩ := h
  refine ⟨⟨t', e1, e2, fun b q q1 => ?_⟩, e3.mono (fun b _ q => hk b q)⟩
  rcases e4 b q with q2 | q2
  · exact hk b q2 q1
  · have := hA b q1; omega
section
variable {A : Nat → Prop} {w : World} {p : Nat} {M : Mt}
theorem live_append (h : Live A w p M) (hA : ∀ b, A b → b < w.heap.size) (area : Int) (a : Option Addr) (cap : Nat) (zs : List Int) (hz : RowAt w a zs) (hbe : zs = [] ∨ ∀ x, a = some x → A x.block) :
    Calls Tryz.prog 29 #[.pointer (some ⟨p, 0, none⟩), .int .i64 area, .slice a zs.length cap] w fun e w' => e = .returned (.int .i64 (M.append area zs).1) ∧ Live A w' p (M.append area zs).2 ∧ Off (fun b => ¬ A b) w w' := by
  obtain ⟨t, rfl, h, k⟩ := h
  refine (tappend_any t M area a cap zs w h hz ?_).mono ?_
  · rcases hbe with q | q
    · exact .inl q
    · exact .inr (fun x hx q1 => k _ q1 (q x hx))
  · rintro e w' ⟨he, hw⟩
    exact ⟨he, Live.turn k hA hw⟩
theorem live_sync (h : Live A w p M) (hA : ∀ b, A b → b < w.heap.size) (area : Int) :
    Calls Tryz.prog 49 #[.pointer (some ⟨p, 0, none⟩), .int .i64 area] w fun e w' => e = .returned (.int .i64 (M.sync area).1) ∧ Live A w' p (M.sync area).2 ∧ Off (fun b => ¬ A b) w w' := by
  obtain ⟨t, rfl, h, k⟩ := h
  refine (tsync_any t M area w h).mono ?_
  rintro e w' ⟨he, hw⟩
  exact ⟨he, Live.turn k hA hw⟩
theorem live_clear (h : Live A w p M) (hA : ∀ b, A b → b < w.heap.size) (area : Int) :
    Calls Tryz.prog 31 #[.pointer (some ⟨p, 0, none⟩), .int .i64 area] w fun e w' => e = .returned (.int .i64 (M.empty area).1) ∧ Live A w' p (M.empty area).2 ∧ Off (fun b => ¬ A b) w w' := by
  obtain ⟨t, rfl, h, k⟩ := h
  refine (tclear_any t M area w h).mono ?_
  rintro e w' ⟨he, hw⟩
  exact ⟨he, Live.turn k hA hw⟩
theorem live_arm (h : Live A w p M) (hA : ∀ b, A b → b < w.heap.size) (n keep : Int) (hn : n ≤ 9223372036854775807) :
    Calls Tryz.prog 26 #[.pointer (some ⟨p, 0, none⟩), .int .i64 n, .int .i64 keep] w fun e w' => e = .returned (.int .i64 (M.arm n keep).1) ∧ Live A w' p (M.arm n keep).2 ∧ Off (fun b => ¬ A b) w w' := by
  obtain ⟨t, rfl, h, k⟩ := h
  refine (arm_any t M n keep w h hn).mono ?_
  rintro e w' ⟨he, hw⟩
  exact ⟨he, Live.turn k hA hw⟩
theorem live_fail (h : Live A w p M) (hA : ∀ b, A b → b < w.heap.size) (keep : Int) :
    Calls Tryz.prog 22 #[.pointer (some ⟨p, 0, none⟩), .int .i64 keep] w fun e w' => e = .returned (.int .i64 (M.fail keep).1) ∧ Live A w' p (M.fail keep).2 ∧ Off (fun b => ¬ A b) w w' := by
  obtain ⟨t, rfl, h, k⟩ := h
  refine (fail_any t M keep w h).mono ?_
  rintro e w' ⟨he, hw⟩
  exact ⟨he, Live.turn k hA hw⟩
theorem live_power (h : Live A w p M) (hA : ∀ b, A b → b < w.heap.size) :
    Calls Tryz.prog 23 #[.pointer (some ⟨p, 0, none⟩)] w fun e w' => e = .returned (.int .i64 0) ∧ Live A w' p { M with on := true } ∧ Off (fun b => ¬ A b) w w' := by
  obtain ⟨t, rfl, h, k⟩ := h
  refine (power_any t M w h).mono ?_
  rintro e w' ⟨he, hw⟩
  exact ⟨he, Live.turn k hA hw⟩
theorem Mt.read_ok {M : Mt} (h : M.ok) (area : Int) : (∀ z ∈ M.read area, 0 ≤ z ∧ z < 256) ∧ (M.read area).length ≤ 1073741824 := by
  have h1 := h.rm
  have h2 := h.rl
  unfold Mt.read
  split
  · cases decide (area = 1)
    · exact ⟨h.za, by simp only [Mt.get]; omega⟩
    · exact ⟨h.zb, by simp only [Mt.get]; omega⟩
  · simp
theorem live_read (h : Live A w p M) (area : Int) :
    Calls Tryz.prog 41 #[.pointer (some ⟨p, 0, none⟩), .int .i64 area] w fun e w' => ∃ a cap, e = .returned (.tuple #[.slice a (M.read area).length cap, .int .i64 (M.fault area)]) ∧ RowAt w' a (M.read area) ∧ Below w.heap.size w w' ∧ ∀ x, a = some x → w.heap.size ≤ x.block ∧ x.block < w'.heap.size := by
  obtain ⟨t, rfl, h, k⟩ := h
  refine (tread_any t M area w h).mono ?_
  rintro e w' ⟨v, he, hw, hb⟩
  have hr := Mt.read_ok h.ok area
  have hm : (M.read area).length ≤ maxLen := by have := hr.2; unfold maxLen; omega
  rcases own_range hw with ⟨rfl, h0, _⟩ | ⟨g, cap, rfl, hb', hg, hn, hcm, hrr⟩
  · have e0 : M.read area = [] := List.eq_nil_of_length_eq_zero h0
    rw [e0]
    exact ⟨none, 0, he, ⟨by unfold maxLen; simp, by simp, .inl rfl⟩, hb, fun x hx => by cases hx⟩
  · exact ⟨_, cap, he, ⟨hm, hr.1, .inr ⟨g, 0, rfl, hg, hrr⟩⟩, hb, fun x hx => by cases hx; exact ⟨hb', hg⟩⟩
theorem live_used (h : Live A w p M) : Calls Tryz.prog 39 #[.pointer (some ⟨p, 0, none⟩)] w fun e w' => e = .returned (.int .i64 ((M.a.length : Int) + M.b.length)) ∧ w' = w := by
  obtain ⟨t, rfl, h, k⟩ := h
  exact used_any t M w h
theorem live_sure (h : Live A w p M) (area : Int) : Calls Tryz.prog 43 #[.pointer (some ⟨p, 0, none⟩), .int .i64 area] w fun e w' => e = .returned (.int .i64 (if area = 0 then (M.sa : Int) else if area = 1 then (M.sb : Int) else 0)) ∧ w' = w := by
  obtain ⟨t, rfl, h, k⟩ := h
  exact sure_any t M area w h
theorem live_on (h : Live A w p M) : Calls Tryz.prog 38 #[.pointer (some ⟨p, 0, none⟩)] w fun e w' => e = .returned (.bool M.on) ∧ w' = w := by
  obtain ⟨t, rfl, h, k⟩ := h
  exact on_any t M w h
theorem live_counts (h : Live A w p M) : Calls Tryz.prog 37 #[.pointer (some ⟨p, 0, none⟩)] w fun e w' => e = .returned (.tuple #[.int .i64 M.ops, .int .i64 M.fa]) ∧ Below w.heap.size w w' := by
  obtain ⟨t, rfl, h, k⟩ := h
  exact counts_any t M w h
end
theorem live_new (room : Int) (w : World) (h0 : 0 ≤ room) (h1 : room ≤ 1073741824) :
    Calls Tryz.prog 6 #[.int .i64 room] w fun e w' => e = .returned (.pointer (some ⟨w.heap.size, 0, none⟩)) ∧ Below w.heap.size w w' ∧ Live (fun b => b < w.heap.size) w' w.heap.size (Mt.new room) := by
  refine (new_yes room w h0 h1).mono ?_
  rintro e w' ⟨he, hb, ht⟩
  refine ⟨he, hb, newTv w, rfl, ht, ?_⟩
  rintro b (q | q | q) h
  · rw [q] at h; simp [newTv] at h
  · simp [newTv, Value.ownBlock] at q
  · simp [newTv, Value.ownBlock] at q
end Go.Proofs.YtfkchnjbbbhmjaaGreat
namespace Go.Proofs.YtfkchnjbbbhmjaaGreat
open Go.RowKit
def strOf (zs : List Int) : ByteArray := zs.foldl (fun r n => r.push (UInt8.ofNat n.toNat)) ByteArray.empty
theorem row_str {w : World} {a : Option Addr} {cap : Nat} {zs : List Int} (h : RowAt w a zs) : (convert 35 9 (.slice a zs.length cap)).run Tryz.prog w = .ok (.string (strOf zs)) w := by
  rw [run_convert_bytes_string w 35 9 5 a zs.length cap Tryz.underlying35 Tryz.underlying5 Tryz.underlying9]
  cases a with
  | none =>
    have hnil : zs = [] := by
      rcases h.2.2 with q | ⟨b, off, hx, _⟩
      · exact q
      · cases hx
    subst hnil
    rfl
  | some x =>
    rcases h.2.2 with rfl | ⟨b, off, hx, _, hr⟩
    · have := run_loadCells_list (P := Tryz.prog) w x [] (fun j v hv => by simp at hv)
      exact run_bytesToString w x 0 cap [] this
    · cases hx
      have := run_loadCells_list (P := Tryz.prog) w ⟨b, off, none⟩ (v8 zs) (fun j v hv => by rw [Addr.add_mid]; exact hr j v hv)
      rw [v8_length] at this
      exact run_bytesToString w ⟨b, off, none⟩ zs.length cap zs this
theorem range_mark (w : World) (arr : Array Value) (t : TypeId) (m : Nat × Nat) : (w.alloc (.cells arr t m)).rangeAt w.heap.size 0 arr.toList := fun j v hv => by
  rw [World.cell?_alloc_mark, Nat.zero_add]
  simpa using hv
theorem mark_row (w : World) (zs : List Int) (m : Nat × Nat) (hz : ∀ z ∈ zs, 0 ≤ z ∧ z < 256) (hl : zs.length ≤ 1000) (arr : Array Value) (harr : arr.toList = v8 zs) : RowAt (w.alloc (.cells arr 5 m)) (some ⟨w.heap.size, 0, none⟩) zs := by
  have hr := range_mark w arr 5 m
  rw [harr] at hr
  exact ⟨by unfold maxLen; omega, hz, .inr ⟨w.heap.size, 0, rfl, by simp, hr⟩⟩
def L1 : Mt := ((Mt.new 100).append 0 [97, 98]).2
def L2 : Mt := (L1.sync 0).2
def L3 : Mt := (L2.append 0 [99, 100]).2
def L4 : Mt := (L3.fail 1).2
def L5 : Mt := { L4 with on := true }
theorem L1e : (Mt.new 100).append 0 [97, 98] = (0, L1) := rfl
theorem L2e : L1.sync 0 = (0, L2) := rfl
theorem L3e : L2.append 0 [99, 100] = (0, L3) := rfl
theorem L4e : L3.fail 1 = (0, L4) := rfl
theorem L5r : L5.read 0 = [97, 98, 99] := rfl
theorem L5f : L5.fault 0 = 0 := rfl
theorem L5s : L5.sa = 3 := rfl
theorem abc_str : strOf [97, 98, 99] = ⟨#[97, 98, 99]⟩ := by rfl
end Go.Proofs.YtfkchnjbbbhmjaaGreat
namespace Go.Proofs.YtfkchnjbbbhmjaaGreat
open Go.ChangeShapes Go.WideShapes Go.ChangeAt Go.RowKit
theorem own : ownKnob Tryz.prog.godebug = none := by kernel_rfl
theorem laidOut : laidOutB Tryz.prog = true := by kernel_rfl
theorem wf64 {z : Int} (h : (Lit.int .i64 z).wf = true) : -9223372036854775808 ≤ z ∧ z ≤ 9223372036854775807 := by
  simp only [Lit.wf, Bool.and_eq_true, decide_eq_true_eq] at h
  exact h
theorem some_at {α : Type} {xs : List α} {n i : Nat} (hl : xs.length = n) (hi : i < n) : ∃ y, xs[i]? = some y := ⟨xs[i]'(by omega), List.getElem?_eq_getElem (by omega)⟩
theorem drop_one {α : Type} {l : List α} {o : Nat} {v : α} (h : (l.drop o).take 1 = [v]) : l[o]? = some v := by
  have := congrArg (·[0]?) h
  simpa [List.getElem?_take, List.getElem?_drop] using this
theorem cells_some {w : World} {base n : Nat} {x : Addr} {cs : List Value} (h : w.cells? base x n = some cs) : cs.length = n ∧ ∀ j v, cs[j]? = some v → w.cell? (x.add j) = some v := by
  unfold World.cells? at h
  split at h
  · have hl := Lib.mapM_length h
    refine ⟨by simpa using hl, fun j v hv => ?_⟩
    have hj : j < n := by
      have := (List.getElem?_eq_some_iff.1 hv).1
      have : cs.length = n := by simpa using hl
      omega
    obtain ⟨y, hy, hf⟩ := Lib.mapM_at h j j (by simp [hj])
    rw [hv] at hy
    exact hf.trans hy.symm
  · cases h
section
variable {H : Type} {enc : TypeId × Value → H} {W : World} {b : Nat} {sp : Nat → Bool} {held : Bool} {m : Nat}
theorem int_at {l : List Value} {o : Nat} {y : DataW H × List MemPlace} (h : DataW.trod enc Tryz.prog W b sp held m 3 ((l.drop o).take 1) = some y) : ∃ z, l[o]? = some (.int .i64 z) ∧ -9223372036854775808 ≤ z ∧ z ≤ 9223372036854775807 := by
  obtain ⟨z, hc, rfl, hw⟩ := DataW.trod_int Tryz.underlying3 h
  exact ⟨z, drop_one hc, wf64 hw⟩
end
/-- a slice whose elements' cells are f's -/
def RowOf {α : Type} (f : α → List Value) (w : World) (a : Option Addr) (ys : List α) : Prop := ys = [] ∨ ∃ b off, a = some ⟨b, off, none⟩ ∧ b < w.heap.size ∧ w.rangeAt b off (ys.flatMap f)
theorem RowOf.below {α : Type} {f : α → List Value} {w w' : World} {a : Option Addr} {ys : List α} (h : RowOf f w a ys) (hb : Below w.heap.size w w') : RowOf f w' a ys := by
  rcases h with h | ⟨b, off, rfl, h1, h2⟩
  · exact .inl h
  · exact .inr ⟨b, off, rfl, Nat.lt_of_lt_of_le h1 hb.size, range_below h2 hb h1⟩
theorem flat_len_k {α : Type} {f : α → List Value} {k : Nat} {ys : List α} (h : ∀ y ∈ ys, (f y).length = k) : (ys.flatMap f).length = ys.length * k := by
  induction ys with
  | nil => simp
  | cons y ys ih =>
    have h1 := h y (by simp)
    have h2 := ih (fun x hx => h x (by simp [hx]))
    simp only [List.flatMap_cons, List.length_append, List.length_cons, Nat.add_mul, Nat.one_mul]
    omega
theorem RowOf.elem {α : Type} {f : α → List Value} {k : Nat} {w : World} {a : Option Addr} {ys : List α} (h : RowOf f w a ys) (hk : ∀ y ∈ ys, (f y).length = k) (i : Nat) (hi : i < ys.length) : ∃ b off, a = some ⟨b, off, none⟩ ∧ b < w.heap.size ∧ w.rangeAt b (off + i * k) (f ys[i]) := by
  rcases h with h0 | ⟨b, off, rfl, h1, h2⟩
  · subst h0; simp at hi
  · refine ⟨b, off, rfl, h1, ?_⟩
    have e : ys.take i ++ (ys[i] :: ys.drop (i + 1)) = ys := by rw [← List.drop_eq_getElem_cons hi, List.take_append_drop]
    have e2 : ys.flatMap f = (ys.take i).flatMap f ++ f ys[i] ++ (ys.drop (i + 1)).flatMap f := by
      have := congrArg (List.flatMap f) e
      rw [← this]
      simp only [List.flatMap_append, List.flatMap_cons, List.append_assoc]
    rw [e2] at h2
    have h3 := range_part h2
    rwa [flat_len_k (fun y hy => hk y (List.mem_of_mem_take hy)), List.length_take, Nat.min_eq_left (by omega)] at h3
theorem flat_get {α : Type} {f : α → List Value} {k : Nat} (hk : 0 < k) (R : Nat → α) : ∀ (n : Nat), (∀ i, i < n → (f (R i)).length = k) → ∀ j, j < n * k → (((List.range n).map R).flatMap f)[j]? = (f (R (j / k)))[j % k]? := by
  intro n
  induction n with
  | zero => intro _ j hj; omega
  | succ n ih =>
    intro hR j hj
    have hl : (((List.range n).map R).flatMap f).length = n * k := by
      have := flat_len_k (f := f) (k := k) (ys := (List.range n).map R) (fun y hy => by
        obtain ⟨i, hi, rfl⟩ := List.mem_map.1 hy
        exact hR i (by have := List.mem_range.1 hi; omega))
      simpa using this
    rw [List.range_succ, List.map_append, List.flatMap_append]
    by_cases h : j < n * k
    · rw [List.getElem?_append_left (by omega), ih (fun i hi => hR i (by omega)) j h]
    · rw [List.getElem?_append_right (by omega), hl]
      have e0 : j = (j - n * k) + k * n := by rw [Nat.mul_comm k n]; omega
      have hlt : j - n * k < k := by rw [Nat.add_mul, Nat.one_mul] at hj; omega
      have e1 : j / k = n := by rw [e0, Nat.add_mul_div_left _ _ hk, Nat.div_eq_of_lt hlt]; omega
      have e2 : j % k = j - n * k := by
        have := congrArg (· % k) e0
        simp only [Nat.add_mul_mod_self_left] at this
        rw [this, Nat.mod_eq_of_lt hlt]
      rw [e1, e2]
      simp
set_option maxRecDepth 100000 in
theorem rows_of {α : Type} [Inhabited α] (f : α → List Value) (ok : α → Prop) (k : Nat) (hk : 0 < k) (tl te : TypeId) (hu : Tryz.prog.underlying tl = some (.slice te)) (hct : Tryz.prog.cellsOf te = k) (hf : ∀ y, ok y → (f y).length = k)
    {H : Type} {enc : TypeId × Value → H} {W : World} {b : Nat} {sp : Nat → Bool} {held : Bool} {fuel : Nat} {l : List Value} {x : DataW H × List MemPlace}
    (hel : ∀ (m : Nat) (l : List Value) (z : DataW H × List MemPlace), DataW.trod enc Tryz.prog W b sp held m te l = some z → ∃ y, l = f y ∧ ok y)
    (h : DataW.trod enc Tryz.prog W b sp held fuel tl l = some x) : ∃ (a : Option Addr) (cap : Nat) (ys : List α), l = [.slice a ys.length cap] ∧ ys.length ≤ cap ∧ cap ≤ maxLen ∧ (∀ y ∈ ys, ok y) ∧ RowOf f W a ys := by
  rcases Deep.open_slice hu h with ⟨rfl, _⟩ | ⟨a, len, cap, m, n, D, Pl, rfl, hb, hlc, hcm, hm, _, hel2⟩
  · exact ⟨none, 0, [], rfl, by simp, by simp, by simp, .inl rfl⟩
  · rw [hct] at hel2
    have hml : len ≤ m := by rw [hm]; split <;> omega
    have key : ∀ i, i < len → ∃ y : α, W.cells? b (a.add (i * k)) k = some (f y) ∧ ok y := fun i hi => by
      obtain ⟨cs, h1, h2⟩ := hel2 i (by omega)
      obtain ⟨y, rfl, hy⟩ := hel _ _ _ h2
      exact ⟨y, h1, hy⟩
    obtain ⟨R, hR⟩ := Deep.choose_lt key
    refine ⟨some a, cap, (List.range len).map R, by simp, by simpa using hlc, hcm, ?_, ?_⟩
    · intro y hy
      obtain ⟨i, hi, rfl⟩ := List.mem_map.1 hy
      exact (hR i (List.mem_range.1 hi)).2
    · by_cases h0 : len = 0
      · left; simp [h0]
      · right
        obtain ⟨bb, off, spot⟩ := a
        have hlen0 := hf _ (hR 0 (by omega)).2
        have hc := (cells_some (hR 0 (by omega)).1).2 0 ((f (R 0))[0]'(by omega)) (List.getElem?_eq_getElem _)
        have hspot : spot = none := by simpa [Addr.add] using World.cell?_spot hc
        subst hspot
        refine ⟨bb, off, rfl, ?_, fun j v hv => ?_⟩
        · have := World.block_lt_of_cell? W _ hc; simpa [Addr.add] using this
        · have hj : j < len * k := by
            have := (List.getElem?_eq_some_iff.1 hv).1
            rw [flat_len_k (k := k)] at this
            · simpa using this
            · intro y hy
              obtain ⟨i, hi, rfl⟩ := List.mem_map.1 hy
              exact hf _ (hR i (List.mem_range.1 hi)).2
          rw [flat_get hk R len (fun i hi => hf _ (hR i hi).2) j hj] at hv
          have hdm : j / k < len := (Nat.div_lt_iff_lt_mul hk).2 hj
          have := (cells_some (hR (j / k) hdm).1).2 _ _ hv
          rw [Addr.add_mid, Addr.add_mid] at this
          rw [← this]
          congr 2
          have := Nat.div_add_mod j k
          rw [Nat.mul_comm] at this
          omega
def I64 (z : Int) : Prop := -9223372036854775808 ≤ z ∧ z ≤ 9223372036854775807
set_option maxRecDepth 100000 in
theorem bytes_of {H : Type} {enc : TypeId × Value → H} {W : World} {b : Nat} {sp : Nat → Bool} {held : Bool} {fuel : Nat} {l : List Value} {x : DataW H × List MemPlace}
    (h : DataW.trod enc Tryz.prog W b sp held fuel 35 l = some x) : ∃ (a : Option Addr) (cap : Nat) (zs : List Int), l = [.slice a zs.length cap] ∧ zs.length ≤ cap ∧ cap ≤ maxLen ∧ RowAt W a zs := by
  obtain ⟨a, cap, zs, h1, h2, h3, h4, h5⟩ := rows_of (fun z : Int => [Value.int .u8 z]) (fun z => 0 ≤ z ∧ z < 256) 1 (by omega) 35 5 Tryz.underlying35 (by kernel_rfl) (fun _ _ => rfl) (fun m l z hz => by
    obtain ⟨c, hc, rfl, hw⟩ := DataW.trod_int Tryz.underlying5 hz
    refine ⟨c, by simpa using hc, ?_⟩
    simp [Lit.wf, IntKind.min, IntKind.max, IntKind.signed, IntKind.bits] at hw
    omega) h
  refine ⟨a, cap, zs, h1, h2, h3, by omega, h4, ?_⟩
  rcases h5 with h5 | ⟨b, off, rfl, h6, h7⟩
  · exact .inl h5
  · refine .inr ⟨b, off, rfl, h6, ?_⟩
    have e : ∀ ys : List Int, ys.flatMap (fun z : Int => [Value.int .u8 z]) = v8 ys := fun ys => by
      induction ys with
      | nil => rfl
      | cons z ys ih => rw [List.flatMap_cons, ih]; rfl
    rwa [e] at h7
/-- acts -/
structure Ac where
  kind : Int
  area : Int
  da : Option Addr
  dc : Nat
  zs : List Int
  n : Int
  keep : Int
deriving Inhabited
def Ac.cells (A : Ac) : List Value := [.int .i64 A.kind, .int .i64 A.area, .slice A.da A.zs.length A.dc, .int .i64 A.n, .int .i64 A.keep]
structure Ac.ok (W : World) (A : Ac) : Prop where
  r : RowAt W A.da A.zs
  rl : A.zs.length ≤ A.dc
  rm : A.dc ≤ maxLen
  n : I64 A.n
  keep : I64 A.keep
  area : I64 A.area
  kind : I64 A.kind
theorem Ac.one (A : Ac) : ∀ v ∈ A.cells, v.oneCell' = true := by
  intro v hv
  simp only [Ac.cells, List.mem_cons, List.not_mem_nil, or_false] at hv
  rcases hv with rfl | rfl | rfl | rfl | rfl
  all_goals rfl
end Go.Proofs.YtfkchnjbbbhmjaaGreat
namespace Go.Proofs.YtfkchnjbbbhmjaaGreat
open Go.RowKit
def addTo (n m : Int) : Int := if n + m ≤ 20000 then n + m else 20001
set_option maxRecDepth 100000 in
set_option maxHeartbeats 400000 in
theorem addCap_any (n m : Int) (w : World) (h0 : 0 ≤ n) (h1 : n ≤ 20001) (h2 : 0 ≤ m) (h3 : m ≤ 9223372036854775807) :
    Calls Tryz.prog 18 #[.int .i64 n, .int .i64 m, .int .i64 20000] w fun e w' => e = .returned (.int .i64 (addTo n m)) ∧ w' = w := by
  by_cases c1 : 20000 < n
  · have HA : Hid (addTo n m = 20001) := by show _ = _; unfold addTo; rw [if_neg (by omega)]
    rw [HA.out]
    go_enter Tryz.func18, Tryz.ntmps18
    go_wp2
    go_ret
    exact ⟨rfl, rfl⟩
  · by_cases c2 : 20000 < m
    · have HA : Hid (addTo n m = 20001) := by show _ = _; unfold addTo; rw [if_neg (by omega)]
      rw [HA.out]
      go_enter Tryz.func18, Tryz.ntmps18
      go_wp2
      go_ret
      exact ⟨rfl, rfl⟩
    · by_cases c3 : 20000 - m < n
      · have HA : Hid (addTo n m = 20001) := by show _ = _; unfold addTo; rw [if_neg (by omega)]
        rw [HA.out]
        go_enter Tryz.func18, Tryz.ntmps18
        go_wp2
        go_ret
        exact ⟨rfl, rfl⟩
      · have HA : Hid (addTo n m = n + m) := by show _ = _; unfold addTo; rw [if_pos (by omega)]
        rw [HA.out]
        go_enter Tryz.func18, Tryz.ntmps18
        go_wp2
        go_ret
        exact ⟨rfl, rfl⟩
def wtA (ys : List Ac) : Nat := (ys.map fun y => 20 + y.zs.length).sum
theorem wtA_take (ys : List Ac) (k : Nat) (hk : k < ys.length) : wtA (ys.take (k + 1)) = wtA (ys.take k) + (20 + ys[k].zs.length) := by
  unfold wtA
  rw [List.take_succ_eq_append_getElem hk]
  simp only [List.map_append, List.map_cons, List.map_nil, List.sum_append, List.sum_cons, List.sum_nil]
  omega
theorem Ac.ok.below {W W' : World} {A : Ac} (h : A.ok W) (hb : Below W.heap.size W W') : A.ok W' := ⟨h.r.below hb, h.rl, h.rm, h.n, h.keep, h.area, h.kind⟩
theorem wtA_len (ys : List Ac) : ys.length * 20 ≤ wtA ys := by
  induction ys with
  | nil => simp [wtA]
  | cons y ys ih => simp only [wtA, List.map_cons, List.sum_cons, List.length_cons] at *; omega
theorem wtA_mem {ys : List Ac} {y : Ac} (h : y ∈ ys) : 20 + y.zs.length ≤ wtA ys := by
  induction ys with
  | nil => cases h
  | cons x ys ih =>
    simp only [wtA, List.map_cons, List.sum_cons] at *
    rcases List.mem_cons.1 h with rfl | h
    · omega
    · have := ih h; omega
end Go.Proofs.YtfkchnjbbbhmjaaGreat
namespace Go.Proofs.YtfkchnjbbbhmjaaGreat
open Go.RowKit
def Unmade (w : World) (pv : Value) : Prop := pv = .pointer none ∨ ∃ b, pv = .pointer (some ⟨b, 0, none⟩) ∧ b < w.heap.size ∧ w.cell? ⟨b, 0, none⟩ = some (.bool false)
theorem Unmade.below {w w' : World} {pv : Value} (h : Unmade w pv) (hb : Below w.heap.size w w') : Unmade w' pv := by
  rcases h with h | ⟨b, h1, h2, h3⟩
  · exact .inl h
  · exact .inr ⟨b, h1, Nat.lt_of_lt_of_le h2 hb.size, cell_at h3 (hb.block b h2)⟩
set_option maxRecDepth 100000 in
set_option maxHeartbeats 2000000 in
theorem made_no (pv : Value) (w : World) (h : Unmade w pv) :
    Calls Tryz.prog 50 #[pv] w fun e w' => e = .returned (.bool false) ∧ w' = w := by
  rcases h with rfl | ⟨b, rfl, hb, h1⟩
  all_goals
    go_enter Tryz.func50, Tryz.ntmps50
    go_wp2_with fail
    go_ret
    exact ⟨rfl, rfl⟩
set_option maxRecDepth 100000 in
set_option maxHeartbeats 2000000 in
theorem reach_no (n : Int) (pv : Value) (w : World) (h : Unmade w pv) :
    Calls Tryz.prog 54 #[pv, .int .i64 n] w fun e w' => e = .returned (.int .i64 1) ∧ w' = w := by
  have cm := made_no pv w h
  rcases h with rfl | ⟨b, rfl, hb, h1⟩
  all_goals
    go_enter Tryz.func54, Tryz.ntmps54
    go_wp2_with fail
    refine cm.mono ?_
    rintro e w' ⟨rfl, hw⟩
    obtain rfl := hw.symm
    clear cm hw
    go_wp2_with fail
    go_ret
    exact ⟨rfl, rfl⟩
set_option maxRecDepth 100000 in
set_option maxHeartbeats 2000000 in
theorem op_no (n : Int) (f : Value) (pv : Value) (w : World) (h : Unmade w pv) :
    Calls Tryz.prog 55 #[pv, .int .i64 n, f] w fun e w' => e = .returned (.int .i64 1) ∧ w' = w := by
  have cm := reach_no n pv w h
  rcases h with rfl | ⟨b, rfl, hb, h1⟩
  all_goals
    go_enter Tryz.func55, Tryz.ntmps55
    go_wp2_with fail
    refine cm.mono ?_
    rintro e w' ⟨rfl, hw⟩
    obtain rfl := hw.symm
    clear cm hw
    go_wp2_with fail
    go_ret
    exact ⟨rfl, rfl⟩
set_option maxRecDepth 100000 in
set_option maxHeartbeats 2000000 in
theorem sync_no (n : Int) (pv : Value) (w : World) (h : Unmade w pv) :
    Calls Tryz.prog 49 #[pv, .int .i64 n] w fun e w' => e = .returned (.int .i64 1) ∧ w' = w := by
  have cm := op_no n (.func (.func 72) #[] #[]) pv w h
  rcases h with rfl | ⟨b, rfl, hb, h1⟩
  all_goals
    go_enter Tryz.func49, Tryz.ntmps49
    go_wp2_with fail
    refine cm.mono ?_
    rintro e w' ⟨rfl, hw⟩
    obtain rfl := hw.symm
    clear cm hw
    go_wp2_with fail
    go_ret
    exact ⟨rfl, rfl⟩
set_option maxRecDepth 100000 in
set_option maxHeartbeats 2000000 in
theorem clear_no (n : Int) (pv : Value) (w : World) (h : Unmade w pv) :
    Calls Tryz.prog 31 #[pv, .int .i64 n] w fun e w' => e = .returned (.int .i64 1) ∧ w' = w := by
  have cm := op_no n (.func (.func 60) #[] #[]) pv w h
  rcases h with rfl | ⟨b, rfl, hb, h1⟩
  all_goals
    go_enter Tryz.func31, Tryz.ntmps31
    go_wp2_with fail
    refine cm.mono ?_
    rintro e w' ⟨rfl, hw⟩
    obtain rfl := hw.symm
    clear cm hw
    go_wp2_with fail
    go_ret
    exact ⟨rfl, rfl⟩
set_option maxRecDepth 100000 in
set_option maxHeartbeats 2000000 in
theorem read_no (n : Int) (pv : Value) (w : World) (h : Unmade w pv) :
    Calls Tryz.prog 41 #[pv, .int .i64 n] w fun e w' => e = .returned (.tuple #[.slice none 0 0, .int .i64 1]) ∧ w' = w := by
  have cm := reach_no n pv w h
  rcases h with rfl | ⟨b, rfl, hb, h1⟩
  all_goals
    go_enter Tryz.func41, Tryz.ntmps41
    go_wp2_with fail
    refine cm.mono ?_
    rintro e w' ⟨rfl, hw⟩
    obtain rfl := hw.symm
    clear cm hw
    go_wp2_with fail
    go_ret2
    exact ⟨rfl, rfl⟩
set_option maxRecDepth 100000 in
set_option maxHeartbeats 2000000 in
theorem counts_no (pv : Value) (w : World) (h : Unmade w pv) :
    Calls Tryz.prog 37 #[pv] w fun e w' => e = .returned (.tuple #[.int .i64 0, .int .i64 0]) ∧ w' = w := by
  have cm := made_no pv w h
  rcases h with rfl | ⟨b, rfl, hb, h1⟩
  all_goals
    go_enter Tryz.func37, Tryz.ntmps37
    go_wp2_with fail
    refine cm.mono ?_
    rintro e w' ⟨rfl, hw⟩
    obtain rfl := hw.symm
    clear cm hw
    go_wp2_with fail
    go_ret2
    exact ⟨rfl, rfl⟩
set_option maxRecDepth 100000 in
set_option maxHeartbeats 2000000 in
theorem arm_no (n k : Int) (pv : Value) (w : World) (h : Unmade w pv) :
    Calls Tryz.prog 26 #[pv, .int .i64 n, .int .i64 k] w fun e w' => e = .returned (.int .i64 1) ∧ w' = w := by
  have cm := made_no pv w h
  rcases h with rfl | ⟨b, rfl, hb, h1⟩
  all_goals
    go_enter Tryz.func26, Tryz.ntmps26
    go_wp2_with fail
    refine cm.mono ?_
    rintro e w' ⟨rfl, hw⟩
    obtain rfl := hw.symm
    clear cm hw
    go_wp2_with fail
    go_ret
    exact ⟨rfl, rfl⟩
set_option maxRecDepth 100000 in
set_option maxHeartbeats 2000000 in
theorem fail_no (k : Int) (pv : Value) (w : World) (h : Unmade w pv) :
    Calls Tryz.prog 22 #[pv, .int .i64 k] w fun e w' => e = .returned (.int .i64 1) ∧ w' = w := by
  have cm := made_no pv w h
  rcases h with rfl | ⟨b, rfl, hb, h1⟩
  all_goals
    go_enter Tryz.func22, Tryz.ntmps22
    go_wp2_with fail
    refine cm.mono ?_
    rintro e w' ⟨rfl, hw⟩
    obtain rfl := hw.symm
    clear cm hw
    go_wp2_with fail
    go_ret
    exact ⟨rfl, rfl⟩
set_option maxRecDepth 100000 in
set_option maxHeartbeats 2000000 in
theorem power_no (pv : Value) (w : World) (h : Unmade w pv) :
    Calls Tryz.prog 23 #[pv] w fun e w' => e = .returned (.int .i64 1) ∧ w' = w := by
  have cm := made_no pv w h
  rcases h with rfl | ⟨b, rfl, hb, h1⟩
  all_goals
    go_enter Tryz.func23, Tryz.ntmps23
    go_wp2_with fail
    refine cm.mono ?_
    rintro e w' ⟨rfl, hw⟩
    obtain rfl := hw.symm
    clear cm hw
    go_wp2_with fail
    go_ret
    exact ⟨rfl, rfl⟩
set_option maxRecDepth 100000 in
set_option maxHeartbeats 2000000 in
theorem on_no (pv : Value) (w : World) (h : Unmade w pv) :
    Calls Tryz.prog 38 #[pv] w fun e w' => e = .returned (.bool false) ∧ w' = w := by
  have cm := made_no pv w h
  rcases h with rfl | ⟨b, rfl, hb, h1⟩
  all_goals
    go_enter Tryz.func38, Tryz.ntmps38
    go_wp2_with fail
    refine cm.mono ?_
    rintro e w' ⟨rfl, hw⟩
    obtain rfl := hw.symm
    clear cm hw
    go_wp2_with fail
    go_ret
    exact ⟨rfl, rfl⟩
set_option maxRecDepth 100000 in
set_option maxHeartbeats 2000000 in
theorem used_no (pv : Value) (w : World) (h : Unmade w pv) :
    Calls Tryz.prog 39 #[pv] w fun e w' => e = .returned (.int .i64 0) ∧ w' = w := by
  have cm := made_no pv w h
  rcases h with rfl | ⟨b, rfl, hb, h1⟩
  all_goals
    go_enter Tryz.func39, Tryz.ntmps39
    go_wp2_with fail
    refine cm.mono ?_
    rintro e w' ⟨rfl, hw⟩
    obtain rfl := hw.symm
    clear cm hw
    go_wp2_with fail
    go_ret
    exact ⟨rfl, rfl⟩
set_option maxRecDepth 100000 in
set_option maxHeartbeats 2000000 in
theorem sure_no (n : Int) (pv : Value) (w : World) (h : Unmade w pv) :
    Calls Tryz.prog 43 #[pv, .int .i64 n] w fun e w' => e = .returned (.int .i64 0) ∧ w' = w := by
  have cm := made_no pv w h
  rcases h with rfl | ⟨b, rfl, hb, h1⟩
  all_goals
    go_enter Tryz.func43, Tryz.ntmps43
    go_wp2_with fail
    refine cm.mono ?_
    rintro e w' ⟨rfl, hw⟩
    obtain rfl := hw.symm
    clear cm hw
    go_wp2_with fail
    go_ret
    exact ⟨rfl, rfl⟩
set_option maxRecDepth 100000 in
set_option maxHeartbeats 2000000 in
theorem append_no (n : Int) (a : Option Addr) (len cap : Nat) (pv : Value) (w : World) (h : Unmade w pv) :
    Calls Tryz.prog 29 #[pv, .int .i64 n, .slice a len cap] w fun e w' => e = .returned (.int .i64 1) ∧ Below w.heap.size w w' := by
  have hB1 : Below w.heap.size w (w.alloc (.cells #[.slice a len cap] 35)) := (Below.refl _ _).alloc (Nat.le_refl _) _
  have cm := reach_no n pv _ (h.below hB1)
  rcases h with rfl | ⟨b, rfl, hb, h1⟩
  all_goals
    go_enter Tryz.func29, Tryz.ntmps29
    go_wp2_with fail
    refine cm.mono ?_
    rintro e w' ⟨rfl, hw⟩
    obtain rfl := hw.symm
    clear cm hw
    go_wp2_with fail
    go_ret
    exact ⟨rfl, hB1⟩
structure ActBox (w : World) (X : Nat) (A : Ac) : Prop where
  lt : X < w.heap.size
  all : w.rangeAt X 0 A.cells
theorem ActBox.below {w w' : World} {X : Nat} {A : Ac} (h : ActBox w X A) (hb : Below w.heap.size w w') : ActBox w' X A := ⟨Nat.lt_of_lt_of_le h.lt hb.size, range_below h.all hb h.lt⟩
theorem act_cells {w : World} {X o : Nat} {A : Ac} (h : w.rangeAt X o A.cells) : w.cell? ⟨X, o, none⟩ = some (.int .i64 A.kind) ∧ w.cell? ⟨X, o + 1, none⟩ = some (.int .i64 A.area) ∧ w.cell? ⟨X, o + 2, none⟩ = some (.slice A.da A.zs.length A.dc) ∧ w.cell? ⟨X, o + 3, none⟩ = some (.int .i64 A.n) ∧ w.cell? ⟨X, o + 4, none⟩ = some (.int .i64 A.keep) :=
  ⟨h 0 _ rfl, h 1 _ rfl, h 2 _ rfl, h 3 _ rfl, h 4 _ rfl⟩
theorem cell_lt {w : World} {b o : Nat} {v : Value} (h : w.cell? ⟨b, o, none⟩ = some v) : b < w.heap.size := World.block_lt_of_cell? w _ h
end Go.Proofs.YtfkchnjbbbhmjaaGreat
namespace Go.Proofs.YtfkchnjbbbhmjaaGreat
open Go.RowKit
theorem append_two {M : Mt} {k : Int} {zs : List Int} (hon : M.on = true) (hpl : M.pl = false) (hk : k = 0 ∨ k = 1) :
    (M.append k zs = (151, M) ∧ M.room < (M.a.length : Int) + M.b.length + zs.length) ∨ (M.append k zs).1 = 0 ∧ (M.append k zs).2.on = true ∧ (M.append k zs).2.pl = false ∧ (M.append k zs).2.room = M.room := by
  have hf : M.fault k = 0 := by unfold Mt.fault; rw [if_pos hk, if_pos hon]
  unfold Mt.append
  rw [if_pos hf]
  by_cases hr : M.room - ((M.a.length : Int) + M.b.length) < zs.length
  · rw [if_pos hr]
    exact .inl ⟨rfl, by omega⟩
  · rw [if_neg hr]
    unfold Mt.does
    rw [if_pos hf, if_neg (by rw [hpl]; simp)]
    cases decide (k = 1)
    · exact .inr ⟨rfl, hon, hpl, rfl⟩
    · exact .inr ⟨rfl, hon, hpl, rfl⟩
theorem fault_on {M : Mt} {k : Int} (hon : M.on = true) (hk : k = 0 ∨ k = 1) : M.fault k = 0 := by unfold Mt.fault; rw [if_pos hk, if_pos hon]
theorem fault_off {M : Mt} {k : Int} (hon : M.on = false) (hk : k = 0 ∨ k = 1) : M.fault k = 150 := by unfold Mt.fault; rw [if_pos hk, hon]; rfl
theorem append_off {M : Mt} {k : Int} {zs : List Int} (hon : M.on = false) (hk : k = 0 ∨ k = 1) : M.append k zs = (150, M) := by
  have := fault_off hon hk
  unfold Mt.append
  rw [if_neg (by omega), this]
theorem does_off {M : Mt} {k : Int} {f : Bool → Mt → Mt} (hon : M.on = false) (hk : k = 0 ∨ k = 1) : M.does k f = (150, M) := by
  have := fault_off hon hk
  unfold Mt.does
  rw [if_neg (by omega), this]
theorem lose_all {M : Mt} (h : M.ok) : (M.lose 1073741824).a.length = M.a.length ∧ (M.lose 1073741824).b.length = M.b.length := by
  have h1 := h.rm
  have h2 := h.rl
  have h3 := h.sa
  have h4 := h.sb
  constructor
  · simp only [Mt.lose, List.length_take, keptN]; omega
  · simp only [Mt.lose, List.length_take, keptN]; omega
theorem RowAt.old {w : World} {a : Option Addr} {zs : List Int} (h : RowAt w a zs) : zs = [] ∨ ∀ x, a = some x → x.block < w.heap.size := by
  rcases h.2.2 with q | ⟨b, off, rfl, h1, -⟩
  · exact .inl q
  · exact .inr (fun x hx => by cases hx; exact h1)
theorem two_of (z : Int) : wrap64 ((IntKind.u64.wrap z).tmod 2) = 0 ∨ wrap64 ((IntKind.u64.wrap z).tmod 2) = 1 := by
  rw [IntKind.wrap_u64]
  have h0 : 0 ≤ z % 18446744073709551616 := Int.emod_nonneg _ (by omega)
  rw [Int.tmod_eq_emod_of_nonneg h0]
  unfold wrap64
  omega
theorem room_of (z : Int) : 0 ≤ wrap64 ((IntKind.u64.wrap z).tmod 200) ∧ wrap64 ((IntKind.u64.wrap z).tmod 200) < 200 := by
  rw [IntKind.wrap_u64]
  have h0 : 0 ≤ z % 18446744073709551616 := Int.emod_nonneg _ (by omega)
  rw [Int.tmod_eq_emod_of_nonneg h0]
  unfold wrap64
  omega
end Go.Proofs.YtfkchnjbbbhmjaaGreat
namespace Go.Proofs.YtfkchnjbbbhmjaaGreat
open Go Go.RowKit
section
variable {P : Program} {ops : Array Oper} {Q : Exit → Act → World → Prop}
def StepS (P : Program) (ops : Array Oper) (Q : Exit → Act → World → Prop) (S : World → Prop) (fuel : Nat) (listed : Array Bool) (i : Nat) (a : Act) (w : World) : Prop :=
  wpOp P ops (NoPanic Q) i (fun a' w' => S w' ∧ wpAnyH P .any ops (NoPanic Q) S fuel (listed.setIfInBounds i true) a' w') a w
theorem hs_fork {i j : Nat} {S : World → Prop} {fuel : Nat} {listed : Array Bool} {a : Act} {w : World} (hr : Region.ready .any ops listed = [i, j])
    (h1 : StepS P ops Q S fuel listed i a w) (h2 : StepS P ops Q S fuel listed j a w) : HeldS P ops Q S (fuel + 1) listed a w := by
  refine wpAnyH_all hr (by simp) ?_
  intro k hk
  rcases List.mem_cons.1 hk with rfl | hk
  · exact h1
  · obtain rfl := List.mem_singleton.1 hk
    exact h2
theorem st_call {i : Nat} {S : World → Prop} {oi : Oper} {d : Option Nat} {f : FuncId} {args : Array Value} {fuel : Nat} {listed : Array Bool} {a : Act} {w : World} (hi : ops[i]? = some oi)
    (hw : Region.wanted oi (yielded ops a.tmps) = true) (hy : (execOp a.eval oi).run P w = .ok (.enter f args) w) (hdst : oi.dst = d)
    (h : Calls P f args w fun e w' => ∃ v, e = .returned v ∧ S w' ∧ HeldS P ops Q S fuel (listed.setIfInBounds i true) (a.put d v) w') : StepS P ops Q S fuel listed i a w := by
  subst hdst
  unfold StepS wpOp
  simp only [hi, hw, if_true]
  left
  unfold Oper.wp
  rw [hy]
  refine h.mono ?_
  rintro e w' ⟨v, rfl, hb, hk⟩
  exact ⟨hb, hk⟩
theorem st_run {i : Nat} {S : World → Prop} {oi : Oper} {d : Option Nat} {v : Value} {fuel : Nat} {listed : Array Bool} {a : Act} {w w' : World} (hi : ops[i]? = some oi)
    (hw : Region.wanted oi (yielded ops a.tmps) = true) (hy : (execOp a.eval oi).run P w = .ok (.value v) w') (hdst : oi.dst = d)
    (hS : S w') (h : HeldS P ops Q S fuel (listed.setIfInBounds i true) (a.put d v) w') : StepS P ops Q S fuel listed i a w := by
  subst hdst
  unfold StepS wpOp
  simp only [hi, hw, if_true]
  left
  unfold Oper.wp
  rw [hy]
  exact ⟨hS, h⟩
end
end Go.Proofs.YtfkchnjbbbhmjaaGreat
namespace Go.Proofs.YtfkchnjbbbhmjaaGreat
open Go.RowKit
section
variable {P : Program} {ops : Array Oper} {Q : Exit → Act → World → Prop}
theorem hs_forkL {l : List Nat} {S : World → Prop} {fuel : Nat} {listed : Array Bool} {a : Act} {w : World} (hr : Region.ready .any ops listed = l) (hl : l ≠ [])
    (h : ∀ i ∈ l, StepS P ops Q S fuel listed i a w) : HeldS P ops Q S (fuel + 1) listed a w := by
  subst hr
  refine wpAnyH_all rfl ?_ ?_
  · exact hl
  · intro k hk
    exact h k hk
theorem hs_runX {i : Nat} {S : World → Prop} {oi : Oper} {d : Option Nat} {R : Value → World → Prop} {fuel : Nat} {listed : Array Bool} {a : Act} {w : World} (hi : ops[i]? = some oi)
    (hr : Region.ready .any ops listed = [i]) (hw : Region.wanted oi (yielded ops a.tmps) = true) (hdst : oi.dst = d) (hy : ∃ v w', (execOp a.eval oi).run P w = .ok (.value v) w' ∧ R v w')
    (h : ∀ v w', R v w' → S w' ∧ HeldS P ops Q S fuel (listed.setIfInBounds i true) (a.put d v) w') : HeldS P ops Q S (fuel + 1) listed a w := by
  obtain ⟨v, w', h1, h2⟩ := hy
  obtain ⟨h4, h5⟩ := h v w' h2
  exact hs_run hi hr hw h1 hdst h4 h5
theorem st_runX {i : Nat} {S : World → Prop} {oi : Oper} {d : Option Nat} {R : Value → World → Prop} {fuel : Nat} {listed : Array Bool} {a : Act} {w : World} (hi : ops[i]? = some oi)
    (hw : Region.wanted oi (yielded ops a.tmps) = true) (hdst : oi.dst = d) (hy : ∃ v w', (execOp a.eval oi).run P w = .ok (.value v) w' ∧ R v w')
    (h : ∀ v w', R v w' → S w' ∧ HeldS P ops Q S fuel (listed.setIfInBounds i true) (a.put d v) w') : StepS P ops Q S fuel listed i a w := by
  obtain ⟨v, w', h1, h2⟩ := hy
  obtain ⟨h4, h5⟩ := h v w' h2
  exact st_run hi hw h1 hdst h4 h5
end
theorem exec_load {P : Program} {o : Oper} {a : Act} {w : World} {ty : TypeId} {x : Operand} {b off : Nat} {v : Value} (ho : o.op = .load ty x) (hx : a.eval x = .pointer (some ⟨b, off, none⟩)) (hr : (loadVar ty ⟨b, off, none⟩).run P w = .ok v w) : (execOp a.eval o).run P w = .ok (.value v) w := by
  unfold execOp
  simp only [ho, hx, Instr.loadAt, Instr.sureAddr, Sem.run_bind, Sem.run_pure, Result.andThen_ok, hr]
theorem load_one {P : Program} (w : World) {b o : Nat} {ty : TypeId} {v : Value} {d : TypeDesc} (hc : w.cell? ⟨b, o, none⟩ = some v) (hu : P.underlying ty = some d) (hd : d.isRow = false) : (loadVar ty ⟨b, o, none⟩).run P w = .ok v w := by
  simp only [loadVar, isAgg, run_underlying hu, Sem.run_bind, Result.andThen_ok]
  cases d <;> first | (simp [TypeDesc.isRow] at hd; done) | simp [go_sem, hc]
theorem exec_append1 {P : Program} {o : Oper} {a : Act} {w w' : World} {s x : Operand} {t tx : TypeId} {v xv v' : Value} (ho : o.op = .call { callee := .builtin .append, args := #[s, x], argTypes := #[t, tx] }) (hv : a.eval s = v) (hx : a.eval x = xv)
    (hr : (Builtin.append_ #[t, tx] o.type #[v, xv]).run P w = .ok v' w') : (execOp a.eval o).run P w = .ok (.value v') w' := by
  unfold execOp
  simp [ho, resolve, invoke, builtin, hv, hx, hr]
theorem exec_storeP {P : Program} {o : Oper} {a : Act} {w w' : World} {ty : TypeId} {x y : Operand} {ad : Addr} {v : Value} (ho : o.op = .store ty x y) (hx : a.eval x = .pointer (some ad)) (hy : a.eval y = v) (hr : (storeVar ty ad v).run P w = .ok () w') : (execOp a.eval o).run P w = .ok .skip w' := by
  unfold execOp
  simp [ho, hx, hy, Instr.storeAt, Instr.sureAddr, hr]
theorem run_store1 {P : Program} (w : World) (b o : Nat) (ty : TypeId) (v : Value) (ht : w.there b o 1) (hi : (P.info? ty).map (·.size) = some 1) (h1 : v.oneCell' = true) :
    (storeVar ty ⟨b, o, none⟩ v).run P w = .ok () (w.setCell ⟨b, o, none⟩ v) := by
  have hc : v.cells = #[v] := by cases v <;> first | rfl | simp [Value.oneCell'] at h1
  have := run_storeCells_cells (P := P) b o [v] 0 w (fun j hj => by simpa using (ht j (by simpa using hj)).1) (fun j hj => by simpa using (ht j (by simpa using hj)).2)
    (fun x hx => by simp at hx; subst hx; exact h1)
  cases hq : P.info? ty with
  | none => simp [hq] at hi
  | some i =>
    have hs : i.size = 1 := by simp [hq] at hi; omega
    simp only [Nat.add_zero] at this
    simp [storeVar, sizeOf, typeInfo, hq, hc, hs, this, World.setCells]
theorem ex_load {o : Oper} {a : Act} {w : World} {x : Operand} {b off : Nat} {v : Value} (ho : o.op = .load 35 x) (hx : a.eval x = .pointer (some ⟨b, off, none⟩)) (hc : w.cell? ⟨b, off, none⟩ = some v) :
    ∃ v' w', (execOp a.eval o).run Tryz.prog w = .ok (.value v') w' ∧ (v' = v ∧ w' = w) := ⟨v, w, exec_load ho hx (load_one w hc Tryz.underlying35 rfl), rfl, rfl⟩
theorem ex_bs0 {o : Oper} {a : Act} {w : World} (ho : o.op = .buildSlice 35 0 #[]) :
    ∃ v w', (execOp a.eval o).run Tryz.prog w = .ok (.value v) w' ∧ (v = .slice (some ⟨w.heap.size, 0, none⟩) 0 0 ∧ w' = w.alloc (.cells #[] 5)) := by
  refine ⟨.slice (some ⟨w.heap.size, 0, none⟩) 0 0, w.alloc (.cells #[] 5), ?_, rfl, rfl⟩
  obtain ⟨i, hi, hz, hs, hb⟩ := info_parts info8
  unfold execOp
  simp [ho, Instr.buildSlice, run_underlying Tryz.underlying35, sizeOf, typeInfo, hi, Instr.fill, newRow]
  have e : (Array.map (fun _ : Nat => (default : Value)) (Array.range 0)) = #[] := by
    apply Array.ext
    · simp
    · intro i h1 h2
      simp at h2
  rw [e]
theorem owns_new0 (w : World) : (w.alloc (.cells #[] 5)).ownsRow w.heap.size 5 1 (.slice (some ⟨w.heap.size, 0, none⟩) 0 0) 0 [] :=
  ⟨rfl, .inr ⟨w.heap.size, 0, #[], rfl, Nat.le_refl _, heap_alloc_new w _, Nat.le_refl _, by unfold maxLen; omega, rfl, rfl⟩⟩
theorem ex_append {o : Oper} {a : Act} {w : World} {s x : Operand} {B n : Nat} {v : Value} {xs : List Value} {ra : Option Addr} {cap : Nat} {L : List Int} (ho : o.op = .call { callee := .builtin .append, args := #[s, x], argTypes := #[35, 35] }) (hv : a.eval s = v) (hx : a.eval x = .slice ra L.length cap)
    (hown : w.ownsRow B 5 1 v n xs) (hB : B ≤ w.heap.size) (hrow : RowAt w ra L) (hL : n + L.length ≤ 100000000000) :
    ∃ v' w', (execOp a.eval o).run Tryz.prog w = .ok (.value v') w' ∧ (w'.ownsRow B 5 1 v' (n + L.length) (xs ++ v8 L) ∧ w.grownBy w' v.ownBlock) := by
  obtain ⟨i, hi, hz, hs, hb⟩ := info_parts info8
  obtain ⟨v', w', hrun, ho2, hg, hap⟩ := run_append_own_src2 (P := Tryz.prog) w B 35 35 o.type 5 i _ 1 1 Tryz.underlying35 hi hz hs hb (by rfl) v n xs hown _ L.length (v8 L) (hrow.src cap) (by unfold maxLen; omega) (by omega) hB
  exact ⟨v', w', exec_append1 ho hv hx hrun, ho2, hg⟩
/-- a tape of the document's -/
structure Rv where
  r : Nat
  aa : Option Addr
  ca : Nat
  ab : Option Addr
  cb : Nat
  x : Int
  y : Int
def rcells (t : Rv) (M : Mt) : List Value := [.int .i64 M.room, .slice t.aa M.a.length t.ca, .slice t.ab M.b.length t.cb, .int .i64 M.sa, .int .i64 M.sb, .bool (!M.on), .bool M.pl, .int .i64 t.x, .int .i64 t.y, .int .i64 M.ops, .int .i64 M.fa]
def Rv.own (t : Rv) (b : Nat) : Prop := b = t.r ∨ (∃ x, t.aa = some x ∧ x.block = b) ∨ ∃ x, t.ab = some x ∧ x.block = b
/-- a row of bytes in a block that is not R -/
structure RowN (w : World) (R : Nat) (a : Option Addr) (cap : Nat) (zs : List Int) : Prop where
  row : RowAt w a zs
  ne : ∀ x, a = some x → x.block ≠ R ∧ x.block < w.heap.size
  nil : a = none → cap = 0
  le : zs.length ≤ cap
  cm : cap ≤ maxLen
theorem RowN.at {w w' : World} {R : Nat} {a : Option Addr} {cap : Nat} {zs : List Int} (h : RowN w R a cap zs) (hs : w.heap.size ≤ w'.heap.size) (hb : ∀ x, a = some x → w'.heap[x.block]? = w.heap[x.block]?) : RowN w' R a cap zs := by
  refine ⟨⟨h.row.1, h.row.2.1, ?_⟩, fun x hx => ⟨(h.ne x hx).1, Nat.lt_of_lt_of_le (h.ne x hx).2 hs⟩, h.nil, h.le, h.cm⟩
  rcases h.row.2.2 with q | ⟨b, off, rfl, h1, h2⟩
  · exact .inl q
  · exact .inr ⟨b, off, rfl, Nat.lt_of_lt_of_le h1 hs, range_at h2 (hb _ rfl)⟩
theorem RowN.none {w : World} {R : Nat} : RowN w R none 0 [] := ⟨⟨by unfold maxLen; simp, by simp, .inl rfl⟩, by simp, fun _ => rfl, by simp, by unfold maxLen; omega⟩
structure RefAt (w : World) (t : Rv) (M : Mt) : Prop where
  c : w.rangeAt t.r 0 (rcells t M)
  th : w.there t.r 0 11
  ra : RowN w t.r t.aa t.ca M.a
  rb : RowN w t.r t.ab t.cb M.b
  px : M.pl = true → t.x = M.af ∧ t.y = M.ke
  ok : M.ok
theorem RefAt.lt {w : World} {t : Rv} {M : Mt} (h : RefAt w t M) : t.r < w.heap.size := there_lt h.th (by omega)
theorem RefAt.own_lt {w : World} {t : Rv} {M : Mt} (h : RefAt w t M) {b : Nat} (hb : t.own b) : b < w.heap.size := by
  rcases hb with rfl | ⟨x, hx, rfl⟩ | ⟨x, hx, rfl⟩
  · exact h.lt
  · exact (h.ra.ne x hx).2
  · exact (h.rb.ne x hx).2
theorem RefAt.at {w w' : World} {t : Rv} {M : Mt} (h : RefAt w t M) (hs : w.heap.size ≤ w'.heap.size) (hb : ∀ b, t.own b → w'.heap[b]? = w.heap[b]?) : RefAt w' t M :=
  ⟨range_at h.c (hb _ (.inl rfl)), there_at h.th (hb _ (.inl rfl)), h.ra.at hs (fun x hx => hb _ (.inr (.inl ⟨x, hx, rfl⟩))), h.rb.at hs (fun x hx => hb _ (.inr (.inr ⟨x, hx, rfl⟩))), h.px, h.ok⟩
theorem RefAt.below {w w' : World} {t : Rv} {M : Mt} (h : RefAt w t M) (hb : Below w.heap.size w w') : RefAt w' t M := h.at hb.size (fun b q => hb.block b (h.own_lt q))
theorem RefAt.off {w w' : World} {t : Rv} {M : Mt} {F : Nat → Prop} (h : RefAt w t M) (ho : Off F w w') (hF : ∀ b, t.own b → ¬ F b) : RefAt w' t M := h.at ho.size (fun b q => ho.2 b (h.own_lt q) (hF b q))
/-- another state of the document's tape: its block was written, rows are new -/
def RTurned (w w' : World) (t : Rv) (M : Mt) : Prop := ∃ t' : Rv, t'.r = t.r ∧ RefAt w' t' M ∧ Off (fun b => b = t.r) w w' ∧ ∀ b, t'.own b → t.own b ∨ w.heap.size ≤ b
theorem RTurned.same {w w' : World} {t : Rv} {M : Mt} (h : RefAt w t M) (hb : Below w.heap.size w w') : RTurned w w' t M := ⟨t, rfl, h.below hb, Off.of_below hb, fun _ q => .inl q⟩
theorem RTurned.trans {w w1 w2 : World} {t t1 : Rv} {M2 : Mt} (hr : t1.r = t.r) (ho : Off (fun b => b = t.r) w w1) (hn : ∀ b, t1.own b → t.own b ∨ w.heap.size ≤ b) (h : RTurned w1 w2 t1 M2) : RTurned w w2 t M2 := by
  obtain ⟨t2, e1, e2, e3, e4⟩ := h
  refine ⟨t2, e1.trans hr, e2, ho.trans e3 (fun b _ q => q.trans hr), fun b q => ?_⟩
  rcases e4 b q with q1 | q1
  · exact hn b q1
  · right; have := ho.size; omega
/-- one block was written; what it holds -/
structure CellsR (w wr : World) (p : Nat) (cs : List Value) : Prop where
  off : Off (fun b => b = p) w wr
  r : wr.rangeAt p 0 cs
  th : wr.there p 0 11
theorem CellsR.start {w : World} {t : Rv} {M : Mt} (h : RefAt w t M) : CellsR w w t.r (rcells t M) := ⟨Off.refl _ _, h.c, h.th⟩
theorem CellsR.set {w wr : World} {p : Nat} {cs : List Value} (h : CellsR w wr p cs) (i : Nat) (v : Value) : CellsR w (wr.setCell ⟨p, i, none⟩ v) p (cs.set i v) :=
  ⟨h.off.trans (Off.of_setCell (F := fun b => b = p) wr _ _ rfl) (fun _ _ q => q), by have := range_set h.r i v; rwa [Nat.zero_add] at this, there_set h.th _ _⟩
theorem CellsR.below {w wr wr' : World} {p : Nat} {cs : List Value} (h : CellsR w wr p cs) (hb : Below wr.heap.size wr wr') : CellsR w wr' p cs :=
  have hp := there_lt h.th (by omega)
  ⟨h.off.below_r hb, range_at h.r (hb.block p hp), there_at h.th (hb.block p hp)⟩
theorem CellsR.cell {w wr : World} {p : Nat} {cs : List Value} (h : CellsR w wr p cs) (i : Nat) {v : Value} (hv : cs[i]? = some v) : wr.cell? ⟨p, i, none⟩ = some v := by
  have := h.r i v hv
  rwa [Nat.zero_add] at this
theorem CellsR.fz {w wr : World} {p : Nat} {cs : List Value} (h : CellsR w wr p cs) (i : Nat) (hi : i < 11) : wr.frozen? ⟨p, i, none⟩ = false := by
  have := (h.th i hi).2
  rwa [Nat.zero_add] at this
def rptr (t : Rv) : Value := .pointer (some ⟨t.r, 0, none⟩)
section
variable {w : World} {t : Rv} {M : Mt}
theorem RefAt.cell (h : RefAt w t M) (i : Nat) {v : Value} (hv : (rcells t M)[i]? = some v) : w.cell? ⟨t.r, i, none⟩ = some v := by
  have := h.c i v hv
  rwa [Nat.zero_add] at this
theorem RefAt.fz (h : RefAt w t M) (i : Nat) (hi : i < 11) : w.frozen? ⟨t.r, i, none⟩ = false := by
  have := (h.th i hi).2
  rwa [Nat.zero_add] at this
/-- cells of the block that are other ones -/
theorem RTurned.of_cells {w1 w' : World} {t' : Rv} {M' : Mt} (hb : Below w.heap.size w w1) (hc : CellsR w1 w' t.r (rcells t' M')) (hr : t'.r = t.r) (ra : RowN w1 t.r t'.aa t'.ca M'.a) (rb : RowN w1 t.r t'.ab t'.cb M'.b)
    (ea : ∀ x, t'.aa = some x → t.own x.block ∨ w.heap.size ≤ x.block) (eb : ∀ x, t'.ab = some x → t.own x.block ∨ w.heap.size ≤ x.block) (px : M'.pl = true → t'.x = M'.af ∧ t'.y = M'.ke) (ok : M'.ok) : RTurned w w' t M' := by
  refine ⟨t', hr, ⟨by rw [hr]; exact hc.r, by rw [hr]; exact hc.th, ?_, ?_, px, ok⟩, ?_, ?_⟩
  · rw [hr]; exact ra.at hc.off.size (fun x hx => hc.off.2 _ (ra.ne x hx).2 (ra.ne x hx).1)
  · rw [hr]; exact rb.at hc.off.size (fun x hx => hc.off.2 _ (rb.ne x hx).2 (rb.ne x hx).1)
  · exact (Off.of_below hb).trans hc.off (fun _ _ q => q)
  · rintro b (q | ⟨x, hx, rfl⟩ | ⟨x, hx, rfl⟩)
    · exact .inl (.inl (q.trans hr))
    · exact ea x hx
    · exact eb x hx
end
end Go.Proofs.YtfkchnjbbbhmjaaGreat
namespace Go.Proofs.YtfkchnjbbbhmjaaGreat
open Go.RowKit
theorem iszI : (Tryz.prog.info? 3).map (·.size) = some 1 := by kernel_rfl
theorem iszBs : (Tryz.prog.info? 35).map (·.size) = some 1 := by kernel_rfl
def newRv (w : World) : Rv := ⟨w.heap.size, none, 0, none, 0, 0, 0⟩
set_option maxRecDepth 100000 in
set_option maxHeartbeats 2000000 in
theorem rnew_yes (room : Int) (w : World) (h0 : 0 ≤ room) (h1 : room ≤ 1073741824) :
    Calls Tryz.prog 7 #[.int .i64 room] w fun e w' => e = .returned (rptr (newRv w)) ∧ Below w.heap.size w w' ∧ RefAt w' (newRv w) (Mt.new room) := by
  have hr := range_new w (rcells (newRv w) (Mt.new room)).toArray 45
  have ht := there_new w (rcells (newRv w) (Mt.new room)).toArray 45
  have hB : Below w.heap.size w (w.alloc (.cells (rcells (newRv w) (Mt.new room)).toArray 45)) := (Below.refl _ _).alloc (Nat.le_refl _) _
  have hT : RefAt (w.alloc (.cells (rcells (newRv w) (Mt.new room)).toArray 45)) (newRv w) (Mt.new room) :=
    ⟨hr, ht, RowN.none, RowN.none, (fun q => by cases q), Mt.ok.new h0 h1⟩
  have HP := hide (And.intro hB hT)
  clear hB hT hr ht
  have e : (rcells (newRv w) (Mt.new room)).toArray = #[.int .i64 room, .slice none 0 0, .slice none 0 0, .int .i64 0, .int .i64 0, .bool false, .bool false, .int .i64 0, .int .i64 0, .int .i64 0, .int .i64 0] := rfl
  rw [e] at HP
  clear e
  unfold rptr
  go_enter Tryz.func7, Tryz.ntmps7
  go_wp2_with fail
  go_ret
  exact ⟨rfl, HP.out.1, HP.out.2⟩
set_option maxRecDepth 100000 in
set_option maxHeartbeats 2000000 in
theorem rnew_no (room : Int) (w : World) (h : room < 0 ∨ 1073741824 < room) :
    Calls Tryz.prog 7 #[.int .i64 room] w fun e w' => e = .returned (.pointer none) ∧ w' = w := by
  by_cases h0 : room < 0
  · clear h
    go_enter Tryz.func7, Tryz.ntmps7
    go_wp2_with fail
    go_ret
    exact ⟨rfl, rfl⟩
  · have h1 : 1073741824 < room := by omega
    clear h
    go_enter Tryz.func7, Tryz.ntmps7
    go_wp2_with fail
    go_ret
    exact ⟨rfl, rfl⟩
set_option maxRecDepth 100000 in
set_option maxHeartbeats 2000000 in
theorem rfault_any (t : Rv) (M : Mt) (area : Int) (w : World) (h : RefAt w t M) :
    Calls Tryz.prog 58 #[rptr t, .int .i64 area] w fun e w' => e = .returned (.int .i64 (M.fault area)) ∧ w' = w := by
  have h5 := h.cell 5 rfl
  clear h
  unfold rptr
  by_cases ha : area = 0 ∨ area = 1
  · by_cases hon : M.on = true
    · have hf := fault_on hon ha
      rw [hf]
      rw [hon] at h5
      clear hf
      rcases ha with rfl | rfl
      all_goals
        go_enter Tryz.func58, Tryz.ntmps58
        go_wp2_with fail
        go_ret
        exact ⟨rfl, rfl⟩
    · have hon : M.on = false := by simpa using hon
      have hf := fault_off hon ha
      rw [hf]
      rw [hon] at h5
      clear hf
      rcases ha with rfl | rfl
      all_goals
        go_enter Tryz.func58, Tryz.ntmps58
        go_wp2_with fail
        go_ret
        exact ⟨rfl, rfl⟩
  · have hf : M.fault area = 2 := by unfold Mt.fault; rw [if_neg ha]
    rw [hf]
    have h0 : ¬ area = 0 := by omega
    have h1 : ¬ area = 1 := by omega
    have g0 : (area != 0) = true := by simpa using h0
    have g1 : (area != 1) = true := by simpa using h1
    clear hf ha
    go_enter Tryz.func58, Tryz.ntmps58
    go_wp2_with fail
    go_ret
    exact ⟨rfl, rfl⟩
set_option maxRecDepth 100000 in
set_option maxHeartbeats 2000000 in
theorem rused_any (t : Rv) (M : Mt) (w : World) (h : RefAt w t M) :
    Calls Tryz.prog 40 #[rptr t] w fun e w' => e = .returned (.int .i64 ((M.a.length : Int) + M.b.length)) ∧ Below w.heap.size w w' ∧ w'.heap.size = w.heap.size := by
  have h1 := h.cell 1 rfl
  have h2 := h.cell 2 rfl
  have hr := h.ok.rm
  have hl := h.ok.rl
  clear h
  unfold rptr
  go_enter Tryz.func40, Tryz.ntmps40
  go_wp2_with fail
  go_quiet (fail)
  go_wp2_with fail
  go_ret
  exact ⟨rfl, below_drewN (Below.refl _ _) _, rfl⟩
set_option maxRecDepth 100000 in
set_option maxHeartbeats 2000000 in
theorem rsure_any (t : Rv) (M : Mt) (area : Int) (w : World) (h : RefAt w t M) :
    Calls Tryz.prog 44 #[rptr t, .int .i64 area] w fun e w' => e = .returned (.int .i64 (if area = 0 then (M.sa : Int) else if area = 1 then (M.sb : Int) else 0)) ∧ w' = w := by
  have h3 := h.cell 3 rfl
  have h4 := h.cell 4 rfl
  clear h
  unfold rptr
  by_cases ha : area = 0
  · subst ha
    rw [if_pos rfl]
    go_enter Tryz.func44, Tryz.ntmps44
    go_wp2_with fail
    go_ret
    exact ⟨rfl, rfl⟩
  · rw [if_neg ha]
    by_cases hb : area = 1
    · subst hb
      rw [if_pos rfl]
      clear ha
      go_enter Tryz.func44, Tryz.ntmps44
      go_wp2_with fail
      go_ret
      exact ⟨rfl, rfl⟩
    · rw [if_neg hb]
      have g0 : (area != 0) = true := by simpa using ha
      have g1 : (area != 1) = true := by simpa using hb
      go_enter Tryz.func44, Tryz.ntmps44
      go_wp2_with fail
      go_ret
      exact ⟨rfl, rfl⟩
set_option maxRecDepth 100000 in
set_option maxHeartbeats 2000000 in
theorem rread_any (t : Rv) (M : Mt) (area : Int) (w : World) (h : RefAt w t M) :
    Calls Tryz.prog 42 #[rptr t, .int .i64 area] w fun e w' => ∃ a cap, e = .returned (.tuple #[.slice a (M.read area).length cap, .int .i64 (M.fault area)]) ∧ RowAt w' a (M.read area) ∧ Below w.heap.size w w' := by
  have c1 := rfault_any t M area w h
  by_cases hfa : M.fault area = 0
  · have hx := (Mt.fault_ok hfa).1
    have hrd : M.read area = M.get (decide (area = 1)) := if_pos hfa
    rw [hrd, hfa]
    rw [hfa] at c1
    have hb1 : Below w.heap.size w (w.alloc (.cells #[] 5)) := (Below.refl _ _).alloc (Nat.le_refl _) _
    have h1 := (h.below hb1).cell 1 rfl
    have h2 := (h.below hb1).cell 2 rfl
    obtain ⟨i1, hi1, hiz, his, hib⟩ := info_parts info8
    have hb1 : Below w.heap.size w (w.alloc (.cells #[] 5)) := (Below.refl _ _).alloc (Nat.le_refl _) _
    have hown1 := owns_new0 w
    have hr := h.ok.rm
    have hl := h.ok.rl
    have fin : ∀ (v2 : Value) (w2 : World) (zs : List Int), w2.ownsRow w.heap.size 5 1 v2 zs.length (v8 zs) → zs.length ≤ 1073741824 → (∀ z ∈ zs, 0 ≤ z ∧ z < 256) → Below w.heap.size w w2 → ∃ a cap, v2 = .slice a zs.length cap ∧ RowAt w2 a zs ∧ Below w.heap.size w w2 := fun v2 w2 zs k1 k2 k3 k4 => by
      obtain ⟨a, cap, e1, -, -, e2⟩ := own_bytes k1 k3 (by unfold maxLen; omega)
      exact ⟨a, cap, e1, e2, k4⟩
    unfold rptr at *
    rcases hx with rfl | rfl
    · have hsrc := (h.ra.row.below hb1).src t.ca
      have hz := h.ok.za
      rw [show M.get (decide ((0 : Int) = 1)) = M.a from rfl]
      clear h hfa hrd
      go_enter Tryz.func42, Tryz.ntmps42
      go_wp2_with fail
      refine c1.mono ?_
      rintro e w' ⟨rfl, hw⟩
      obtain rfl := hw.symm
      clear c1 hw
      go_wp2_with (at_builtin; refine wpList_append_own_src _ rfl _ _ 35 35 rfl w.heap.size 5 i1 (.int .u8 0) 1 1 Tryz.underlying35 hi1 hiz his hib rfl _ 0 [] rfl hown1 (.slice t.aa M.a.length t.ca) M.a.length (v8 M.a) rfl hsrc ?c1 ?c2 ?c3 ?_)
      case c1 => unfold maxLen; omega
      case c2 => omega
      case c3 => exact hb1.size
      intro v2 w2 hown2 hgrow2
      have hb2 : Below w.heap.size w w2 := hb1.grown hgrow2 hb1.size (fun k hk => (hown1.lt k hk).1)
      obtain ⟨a2, c2, e1, e2, e3⟩ := fin v2 w2 M.a (by simpa using hown2) (by omega) hz hb2
      have HF := hide (And.intro e2 e3)
      subst e1
      clear hown2 hgrow2 hb2 fin e2 e3 hsrc hown1
      go_wp2_with fail
      go_ret2
      exact ⟨_, _, rfl, HF.out⟩
    · have hsrc := (h.rb.row.below hb1).src t.cb
      have hz := h.ok.zb
      rw [show M.get (decide ((1 : Int) = 1)) = M.b from rfl]
      clear h hfa hrd
      go_enter Tryz.func42, Tryz.ntmps42
      go_wp2_with fail
      refine c1.mono ?_
      rintro e w' ⟨rfl, hw⟩
      obtain rfl := hw.symm
      clear c1 hw
      go_wp2_with (at_builtin; refine wpList_append_own_src _ rfl _ _ 35 35 rfl w.heap.size 5 i1 (.int .u8 0) 1 1 Tryz.underlying35 hi1 hiz his hib rfl _ 0 [] rfl hown1 (.slice t.ab M.b.length t.cb) M.b.length (v8 M.b) rfl hsrc ?d1 ?d2 ?d3 ?_)
      case d1 => unfold maxLen; omega
      case d2 => omega
      case d3 => exact hb1.size
      intro v2 w2 hown2 hgrow2
      have hb2 : Below w.heap.size w w2 := hb1.grown hgrow2 hb1.size (fun k hk => (hown1.lt k hk).1)
      obtain ⟨a2, c2, e1, e2, e3⟩ := fin v2 w2 M.b (by simpa using hown2) (by omega) hz hb2
      have HF := hide (And.intro e2 e3)
      subst e1
      clear hown2 hgrow2 hb2 fin e2 e3 hsrc hown1
      go_wp2_with fail
      go_ret2
      exact ⟨_, _, rfl, HF.out⟩
  · have hr : M.read area = [] := if_neg hfa
    rw [hr]
    obtain ⟨z, hz⟩ : ∃ z, Hid (M.fault area = z) := ⟨_, hide rfl⟩
    rw [hz.out] at c1 hfa ⊢
    have hz0 : (z == 0) = false := by simpa using hfa
    have HP : Hid (RowAt w none [] ∧ Below w.heap.size w w) := hide ⟨⟨by unfold maxLen; simp, by simp, .inl rfl⟩, Below.refl _ _⟩
    unfold rptr at *
    clear h hr hfa hz
    go_enter Tryz.func42, Tryz.ntmps42
    go_wp2_with fail
    refine c1.mono ?_
    rintro e w' ⟨rfl, hw⟩
    obtain rfl := hw.symm
    clear c1 hw
    go_wp2_with fail
    go_ret2
    exact ⟨_, _, rfl, HP.out⟩
set_option maxRecDepth 100000 in
set_option maxHeartbeats 2000000 in
theorem rarm_any (t : Rv) (M : Mt) (n keep : Int) (w : World) (h : RefAt w t M) (hn : n ≤ 9223372036854775807) :
    Calls Tryz.prog 27 #[rptr t, .int .i64 n, .int .i64 keep] w fun e w' => e = .returned (.int .i64 (M.arm n keep).1) ∧ RTurned w w' t (M.arm n keep).2 := by
  have q5 := h.cell 5 rfl
  have q6 := h.cell 6 rfl
  have q7 := h.cell 7 rfl
  have q8 := h.cell 8 rfl
  have f6 := h.fz 6 (by omega)
  have f7 := h.fz 7 (by omega)
  have f8 := h.fz 8 (by omega)
  have hok := h.ok.arm hn keep
  unfold Mt.arm at *
  unfold rptr at *
  by_cases hn0 : n < 0
  · rw [if_pos hn0]
    have HT : Hid (RTurned w w t M) := hide (RTurned.same h (Below.refl _ _))
    clear h hok
    go_enter Tryz.func27, Tryz.ntmps27
    go_wp2_with fail
    go_ret
    exact ⟨rfl, HT.out⟩
  · rw [if_neg hn0] at hok ⊢
    by_cases hon : M.on = true
    rotate_left
    · rw [if_neg hon]
      have hon : M.on = false := by simpa using hon
      rw [hon] at q5
      have HT : Hid (RTurned w w t M) := hide (RTurned.same h (Below.refl _ _))
      clear h hok hon
      go_enter Tryz.func27, Tryz.ntmps27
      go_wp2_with fail
      go_ret
      exact ⟨rfl, HT.out⟩
    · rw [if_pos hon] at hok
      rw [if_pos hon]
      rw [hon] at q5
      have HT : Hid (RTurned w (((w.setCell ⟨t.r, 6, none⟩ (.bool true)).setCell ⟨t.r, 7, none⟩ (.int .i64 n)).setCell ⟨t.r, 8, none⟩ (.int .i64 keep)) t { M with pl := true, af := n, ke := keep }) :=
        hide (RTurned.of_cells (t := t) (t' := { t with x := n, y := keep }) (Below.refl _ _) ((((CellsR.start h).set 6 (.bool true)).set 7 (.int .i64 n)).set 8 (.int .i64 keep)) rfl h.ra h.rb (fun x hx => .inl (.inr (.inl ⟨x, hx, rfl⟩))) (fun x hx => .inl (.inr (.inr ⟨x, hx, rfl⟩))) (fun _ => ⟨rfl, rfl⟩) hok)
      clear h hok hon
      go_enter Tryz.func27, Tryz.ntmps27
      go_wp2_with fail
      go_ret
      exact ⟨rfl, HT.out⟩
end Go.Proofs.YtfkchnjbbbhmjaaGreat
