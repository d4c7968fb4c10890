/- tape: operate; Sync, Clear; tape: Append, Read; a tape beside what must stay; tape: the chapter's example; A region that draws its order where two operations are ready at once: both ways.; one block was written: what stays; what tally's texts lean on; math/bits.Len64, by its contract.; Plain mathematics of numbers as bytes: how many bytes a number has, its digits to the base 256, the highest first, and back. Imports nothing of the translation. -/
import Derived.Test.YtfkchnjbbbhmjabXB2
import Derived.Laws.EntriesVeiled
import Derived.Lib.SlBytesConst
import Derived.SliceStrings
import Derived.Test.YtfkchnjbbbhmjabXB1
import Derived.WalkLawsBesides
import Derived.Lib.BitFns
import Derived.WalkKit
import Derived.WalkSpells
import Derived.Lib.Small
import Derived.Lib.Walk
namespace Go.Proofs.Ytfkchnjbbbhmjab
open Go.RowKit
theorem Turned.trans {w w1 w2 : World} {t : Tv} {t1 : Tv} {M2 : Mt} (hp : t1.p = t.p) (ho : Off t.own w w1) (hn : ∀ b, t1.own b → t.own b ∨ w.heap.size ≤ b) (h : Turned w1 w2 t1 M2) : Turned w w2 t M2 := by
  obtain ⟨t2, e1, e2, e3, e4⟩ := h
  refine ⟨t2, e1.trans hp, e2, ho.trans e3 (fun b hb q => ?_), fun b q => ?_⟩
  · rcases hn b q with q1 | q1
    · exact q1
    · omega
  · rcases e4 b q with q1 | q1
    · exact hn b q1
    · right; have := ho.size; omega
def Mt.down (M : Mt) : Mt := { M with af := if M.pl then M.af - 1 else M.af }
theorem down_turned {w : World} {t : Tv} {M : Mt} (h : TapeAt w t M) (hpl : M.pl = true) (hne : M.af ≠ 0) : Turned w (w.setCell ⟨t.p, 8, none⟩ (.int .i64 (M.af - 1))) t M.down := by
  have hd : M.down.ok := by
    have := h.ok.count (fun q => hne q.2)
    exact ⟨this.za, this.zb, this.sa, this.sb, this.rm, this.rl, this.pa⟩
  have he : M.down.af = M.af - 1 := by simp only [Mt.down, hpl, if_true]
  exact Turned.of_cells (t' := { t with x := M.af - 1 }) h ((CellsAt.start h).set 8 _) rfl h.oa h.ob (.inr rfl) (.inr rfl) (fun _ => ⟨he.symm, (h.px hpl).2⟩) hd
theorem down_same {w : World} {t : Tv} {M : Mt} (h : TapeAt w t M) (hpl : M.pl = false) : TapeAt w t M.down := by
  have he : M.down = M := by
    unfold Mt.down
    rw [hpl]
    cases M
    cases hpl
    rfl
  rw [he]; exact h
theorem ops_turned {w : World} {t : Tv} {M : Mt} (h : TapeAt w t M) : Turned w (w.setCell ⟨t.p, 10, none⟩ (.int .i64 (wrap64 (M.ops + 1)))) t { M with ops := wrap64 (M.ops + 1) } :=
  Turned.of_cells h ((CellsAt.start h).set 10 _) rfl h.oa h.ob (.inr rfl) (.inr rfl) h.px ⟨h.ok.za, h.ok.zb, h.ok.sa, h.ok.sb, h.ok.rm, h.ok.rl, h.ok.pa⟩
set_option maxRecDepth 100000 in
set_option maxHeartbeats 4000000 in
theorem operate_0 (t : Tv) (M : Mt) (g : Nat) (eg : ∀ args w, (callFunc g args).run Try.prog w = .ok (.enter g args) w) (caps : Array Value) (f : Bool → Mt → Mt) (w : World) (h : TapeAt w t M) (hon : M.on = true)
    (hf : ∀ W t1, TapeAt W t1 M.down → t1.p = t.p → Off t.own w W → (∀ b, t1.own b → t.own b ∨ w.heap.size ≤ b) → Calls Try.prog g (#[.pointer (some ⟨t.p, 3, none⟩)] ++ caps) W fun e W' => e = .returned (.tuple #[]) ∧ Turned W W' t1 (f false M.down))
    (hfc : f false M.count = { f false M.down with ops := wrap64 (M.ops + 1) }) (hfo : (f false M.down).ops = M.ops) :
    Calls Try.prog 41 #[tptr t, .int .i64 0, .func (.func g) #[] caps] w fun e w' => e = .returned (.int .i64 (M.does 0 f).1) ∧ Turned w w' t (M.does 0 f).2 := by
  have c1 := reach_any t M 0 w h
  have hfa : M.fault 0 = 0 := by unfold Mt.fault; rw [if_pos (by omega), if_pos hon]
  rw [hfa] at c1
  have q7 := h.c7
  have q8 := h.c8
  have q9 := h.c9
  have f8 := h.fz 8 (by omega)
  unfold Mt.does
  rw [if_pos hfa, show decide ((0 : Int) = 1) = false from rfl]
  clear hfa
  by_cases hpl : M.pl = true
  · rw [hpl] at q7
    rw [(h.px hpl).1] at q8
    rw [(h.px hpl).2] at q9
    by_cases haf : M.af = 0
    · rw [if_pos ⟨hpl, haf⟩]
      have c2 := lose_any t M M.ke w h
      rw [haf] at q8
      obtain ⟨M', hM'⟩ : ∃ M', Hid (M.lose M.ke = M') := ⟨_, hide rfl⟩
      rw [hM'.out] at c2 ⊢
      obtain ⟨ke, hke⟩ : ∃ ke, Hid (M.ke = ke) := ⟨_, hide rfl⟩
      rw [hke.out] at c2 q9
      unfold tptr at *
      clear h hf hfc hfo hM' hke haf hpl hon
      go_enter Try.func41, Try.ntmps41
      go_wp2_with fail
      refine c1.mono ?_
      rintro e w' ⟨rfl, hw⟩
      obtain rfl := hw.symm
      clear c1 hw
      go_wp2_with fail
      refine c2.mono ?_
      rintro e w' ⟨rfl, hw⟩
      clear c2
      go_wp2_with fail
      go_ret
      exact ⟨rfl, hw⟩
    · rw [if_neg (fun q => haf q.2)]
      have HD := hide (down_turned h hpl haf)
      have hab := h.ok.pa hpl
      obtain ⟨z, hz⟩ : ∃ z, Hid (M.af = z) := ⟨_, hide rfl⟩
      rw [hz.out] at q8 HD haf hab
      have hz0 : (z == 0) = false := by simpa using haf
      have hz1 : 0 < z := by omega
      have hz2 : z ≤ 9223372036854775807 := hab.2
      unfold tptr at *
      clear h hz hpl hon hab haf
      go_enter Try.func41, Try.ntmps41
      go_wp2_with fail
      refine c1.mono ?_
      rintro e w' ⟨rfl, hw⟩
      obtain rfl := hw.symm
      clear c1 hw
      go_wp2_with fail
      obtain ⟨t1, p1, h1, o1, n1⟩ := HD.out
      have c3 := hf _ t1 h1 p1 o1 n1
      clear hf HD
      refine c3.mono ?_
      clear c3
      rintro e w3 ⟨rfl, t2, p2, h2, o2, n2⟩
      have hpp : t2.p = t.p := p2.trans p1
      have q10 := h2.c10
      have f10 := h2.fz 10 (by omega)
      rw [hpp] at q10 f10
      rw [hfo] at q10
      have HX : Hid (Turned w (w3.setCell ⟨t.p, 10, none⟩ (.int .i64 (wrap64 (M.ops + 1)))) t (f false M.count)) := hide (by
        have g1 := ops_turned h2
        rw [hfo, hpp] at g1
        rw [hfc]
        exact Turned.trans p1 o1 n1 (Turned.trans p2 o2 n2 g1))
      clear h2 h1 o1 n1 o2 n2 hpp p2 p1
      go_wp2_with fail
      go_ret
      exact ⟨rfl, HX.out⟩
  · rw [if_neg (fun q => hpl q.1)]
    have hpl : M.pl = false := by simpa using hpl
    rw [hpl] at q7
    have h1 := down_same h hpl
    have c3 := hf w t h1 rfl (Off.refl _ _) (fun _ q => .inl q)
    unfold tptr at *
    clear h hpl hon hf
    go_enter Try.func41, Try.ntmps41
    go_wp2_with fail
    refine c1.mono ?_
    rintro e w' ⟨rfl, hw⟩
    obtain rfl := hw.symm
    clear c1 hw
    go_wp2_with fail
    refine c3.mono ?_
    clear c3
    have p1 : t.p = t.p := rfl
    have o1 : Off t.own w w := Off.refl _ _
    have n1 : ∀ b, t.own b → t.own b ∨ w.heap.size ≤ b := fun _ q => .inl q
    rintro e w3 ⟨rfl, t2, p2, h2, o2, n2⟩
    have hpp : t2.p = t.p := p2.trans p1
    have q10 := h2.c10
    have f10 := h2.fz 10 (by omega)
    rw [hpp] at q10 f10
    rw [hfo] at q10
    have HX : Hid (Turned w (w3.setCell ⟨t.p, 10, none⟩ (.int .i64 (wrap64 (M.ops + 1)))) t (f false M.count)) := hide (by
      have g1 := ops_turned h2
      rw [hfo, hpp] at g1
      rw [hfc]
      exact Turned.trans p1 o1 n1 (Turned.trans p2 o2 n2 g1))
    clear h2 h1 o1 n1 o2 n2 hpp p2 p1
    go_wp2_with fail
    go_ret
    exact ⟨rfl, HX.out⟩
set_option maxRecDepth 100000 in
set_option maxHeartbeats 4000000 in
theorem operate_1 (t : Tv) (M : Mt) (g : Nat) (eg : ∀ args w, (callFunc g args).run Try.prog w = .ok (.enter g args) w) (caps : Array Value) (f : Bool → Mt → Mt) (w : World) (h : TapeAt w t M) (hon : M.on = true)
    (hf : ∀ W t1, TapeAt W t1 M.down → t1.p = t.p → Off t.own w W → (∀ b, t1.own b → t.own b ∨ w.heap.size ≤ b) → Calls Try.prog g (#[.pointer (some ⟨t.p, 5, none⟩)] ++ caps) W fun e W' => e = .returned (.tuple #[]) ∧ Turned W W' t1 (f true M.down))
    (hfc : f true M.count = { f true M.down with ops := wrap64 (M.ops + 1) }) (hfo : (f true M.down).ops = M.ops) :
    Calls Try.prog 41 #[tptr t, .int .i64 1, .func (.func g) #[] caps] w fun e w' => e = .returned (.int .i64 (M.does 1 f).1) ∧ Turned w w' t (M.does 1 f).2 := by
  have c1 := reach_any t M 1 w h
  have hfa : M.fault 1 = 0 := by unfold Mt.fault; rw [if_pos (by omega), if_pos hon]
  rw [hfa] at c1
  have q7 := h.c7
  have q8 := h.c8
  have q9 := h.c9
  have f8 := h.fz 8 (by omega)
  unfold Mt.does
  rw [if_pos hfa, show decide ((1 : Int) = 1) = true from rfl]
  clear hfa
  by_cases hpl : M.pl = true
  · rw [hpl] at q7
    rw [(h.px hpl).1] at q8
    rw [(h.px hpl).2] at q9
    by_cases haf : M.af = 0
    · rw [if_pos ⟨hpl, haf⟩]
      have c2 := lose_any t M M.ke w h
      rw [haf] at q8
      obtain ⟨M', hM'⟩ : ∃ M', Hid (M.lose M.ke = M') := ⟨_, hide rfl⟩
      rw [hM'.out] at c2 ⊢
      obtain ⟨ke, hke⟩ : ∃ ke, Hid (M.ke = ke) := ⟨_, hide rfl⟩
      rw [hke.out] at c2 q9
      unfold tptr at *
      clear h hf hfc hfo hM' hke haf hpl hon
      go_enter Try.func41, Try.ntmps41
      go_wp2_with fail
      refine c1.mono ?_
      rintro e w' ⟨rfl, hw⟩
      obtain rfl := hw.symm
      clear c1 hw
      go_wp2_with fail
      refine c2.mono ?_
      rintro e w' ⟨rfl, hw⟩
      clear c2
      go_wp2_with fail
      go_ret
      exact ⟨rfl, hw⟩
    · rw [if_neg (fun q => haf q.2)]
      have HD := hide (down_turned h hpl haf)
      have hab := h.ok.pa hpl
      obtain ⟨z, hz⟩ : ∃ z, Hid (M.af = z) := ⟨_, hide rfl⟩
      rw [hz.out] at q8 HD haf hab
      have hz0 : (z == 0) = false := by simpa using haf
      have hz1 : 0 < z := by omega
      have hz2 : z ≤ 9223372036854775807 := hab.2
      unfold tptr at *
      clear h hz hpl hon hab haf
      go_enter Try.func41, Try.ntmps41
      go_wp2_with fail
      refine c1.mono ?_
      rintro e w' ⟨rfl, hw⟩
      obtain rfl := hw.symm
      clear c1 hw
      go_wp2_with fail
      obtain ⟨t1, p1, h1, o1, n1⟩ := HD.out
      have c3 := hf _ t1 h1 p1 o1 n1
      clear hf HD
      refine c3.mono ?_
      clear c3
      rintro e w3 ⟨rfl, t2, p2, h2, o2, n2⟩
      have hpp : t2.p = t.p := p2.trans p1
      have q10 := h2.c10
      have f10 := h2.fz 10 (by omega)
      rw [hpp] at q10 f10
      rw [hfo] at q10
      have HX : Hid (Turned w (w3.setCell ⟨t.p, 10, none⟩ (.int .i64 (wrap64 (M.ops + 1)))) t (f true M.count)) := hide (by
        have g1 := ops_turned h2
        rw [hfo, hpp] at g1
        rw [hfc]
        exact Turned.trans p1 o1 n1 (Turned.trans p2 o2 n2 g1))
      clear h2 h1 o1 n1 o2 n2 hpp p2 p1
      go_wp2_with fail
      go_ret
      exact ⟨rfl, HX.out⟩
  · rw [if_neg (fun q => hpl q.1)]
    have hpl : M.pl = false := by simpa using hpl
    rw [hpl] at q7
    have h1 := down_same h hpl
    have c3 := hf w t h1 rfl (Off.refl _ _) (fun _ q => .inl q)
    unfold tptr at *
    clear h hpl hon hf
    go_enter Try.func41, Try.ntmps41
    go_wp2_with fail
    refine c1.mono ?_
    rintro e w' ⟨rfl, hw⟩
    obtain rfl := hw.symm
    clear c1 hw
    go_wp2_with fail
    refine c3.mono ?_
    clear c3
    have p1 : t.p = t.p := rfl
    have o1 : Off t.own w w := Off.refl _ _
    have n1 : ∀ b, t.own b → t.own b ∨ w.heap.size ≤ b := fun _ q => .inl q
    rintro e w3 ⟨rfl, t2, p2, h2, o2, n2⟩
    have hpp : t2.p = t.p := p2.trans p1
    have q10 := h2.c10
    have f10 := h2.fz 10 (by omega)
    rw [hpp] at q10 f10
    rw [hfo] at q10
    have HX : Hid (Turned w (w3.setCell ⟨t.p, 10, none⟩ (.int .i64 (wrap64 (M.ops + 1)))) t (f true M.count)) := hide (by
      have g1 := ops_turned h2
      rw [hfo, hpp] at g1
      rw [hfc]
      exact Turned.trans p1 o1 n1 (Turned.trans p2 o2 n2 g1))
    clear h2 h1 o1 n1 o2 n2 hpp p2 p1
    go_wp2_with fail
    go_ret
    exact ⟨rfl, HX.out⟩
set_option maxRecDepth 100000 in
set_option maxHeartbeats 4000000 in
theorem operate_no (t : Tv) (M : Mt) (area : Int) (g : Nat) (caps : Array Value) (f : Bool → Mt → Mt) (w : World) (h : TapeAt w t M) (hfa : M.fault area ≠ 0) :
    Calls Try.prog 41 #[tptr t, .int .i64 area, .func (.func g) #[] caps] w fun e w' => e = .returned (.int .i64 (M.does area f).1) ∧ Turned w w' t (M.does area f).2 := by
  have c1 := reach_any t M area w h
  unfold Mt.does
  rw [if_neg hfa]
  have HT : Hid (Turned w w t M) := hide (Turned.same h (Below.refl _ _))
  obtain ⟨z, hz⟩ : ∃ z, Hid (M.fault area = z) := ⟨_, hide rfl⟩
  rw [hz.out] at c1 hfa ⊢
  have hz0 : (z == 0) = false := by simpa using hfa
  unfold tptr at *
  clear h hz hfa
  go_enter Try.func41, Try.ntmps41
  go_wp2_with fail
  refine c1.mono ?_
  rintro e w' ⟨rfl, hw⟩
  obtain rfl := hw.symm
  clear c1 hw
  go_wp2_with fail
  go_ret
  exact ⟨rfl, HT.out⟩
theorem operate_any (t : Tv) (M : Mt) (area : Int) (g : Nat) (eg : ∀ args w, (callFunc g args).run Try.prog w = .ok (.enter g args) w) (caps : Array Value) (f : Bool → Mt → Mt) (w : World) (h : TapeAt w t M)
    (hf : M.fault area = 0 → ∀ k, ∀ W t1, TapeAt W t1 M.down → t1.p = t.p → Off t.own w W → (∀ b, t1.own b → t.own b ∨ w.heap.size ≤ b) → Calls Try.prog g (#[areaP t1 k] ++ caps) W fun e W' => e = .returned (.tuple #[]) ∧ Turned W W' t1 (f k M.down))
    (hfc : ∀ k, f k M.count = { f k M.down with ops := wrap64 (M.ops + 1) }) (hfo : ∀ k, (f k M.down).ops = M.ops) :
    Calls Try.prog 41 #[tptr t, .int .i64 area, .func (.func g) #[] caps] w fun e w' => e = .returned (.int .i64 (M.does area f).1) ∧ Turned w w' t (M.does area f).2 := by
  by_cases hfa : M.fault area = 0
  · have hc : (area = 0 ∨ area = 1) ∧ M.on = true := by
      unfold Mt.fault at hfa
      split at hfa
      · rename_i q
        refine ⟨q, ?_⟩
        split at hfa
        · assumption
        · cases hfa
      · cases hfa
    have hf' := hf hfa
    rcases hc.1 with rfl | rfl
    · exact operate_0 t M g eg caps f w h hc.2 (fun W t1 k1 k2 k3 k4 => by have := hf' false W t1 k1 k2 k3 k4; unfold areaP offA at this; rw [k2] at this; exact this) (hfc false) (hfo false)
    · exact operate_1 t M g eg caps f w h hc.2 (fun W t1 k1 k2 k3 k4 => by have := hf' true W t1 k1 k2 k3 k4; unfold areaP offA at this; rw [k2] at this; exact this) (hfc true) (hfo true)
  · exact operate_no t M area g caps f w h hfa
theorem eg_sync (args : Array Value) (w : World) : (callFunc 46 args).run Try.prog w = .ok (.enter 46 args) w := by go_simp
theorem eg_clear (args : Array Value) (w : World) : (callFunc 50 args).run Try.prog w = .ok (.enter 50 args) w := by go_simp
theorem eg_app (args : Array Value) (w : World) : (callFunc 42 args).run Try.prog w = .ok (.enter 42 args) w := by go_simp
set_option maxRecDepth 100000 in
set_option maxHeartbeats 2000000 in
theorem tsync_any (t : Tv) (M : Mt) (area : Int) (w : World) (h : TapeAt w t M) :
    Calls Try.prog 29 #[tptr t, .int .i64 area] w fun e w' => e = .returned (.int .i64 (M.sync area).1) ∧ Turned w w' t (M.sync area).2 := by
  have c1 := operate_any t M area 46 eg_sync #[] Mt.settle w h (fun _ k W t1 k1 _ _ _ => sync1_any t1 M.down k W k1) (fun k => by cases k <;> rfl) (fun k => by cases k <;> rfl)
  unfold Mt.sync
  generalize M.does area Mt.settle = r at *
  unfold tptr at *
  clear h
  go_enter Try.func29, Try.ntmps29
  go_wp2_with fail
  refine c1.mono ?_
  rintro e w' ⟨rfl, hw⟩
  clear c1
  go_wp2_with fail
  go_ret
  exact ⟨rfl, hw⟩
set_option maxRecDepth 100000 in
set_option maxHeartbeats 2000000 in
theorem tclear_any (t : Tv) (M : Mt) (area : Int) (w : World) (h : TapeAt w t M) :
    Calls Try.prog 32 #[tptr t, .int .i64 area] w fun e w' => e = .returned (.int .i64 (M.empty area).1) ∧ Turned w w' t (M.empty area).2 := by
  have c1 := operate_any t M area 50 eg_clear #[] Mt.clear w h (fun _ k W t1 k1 _ _ _ => clear1_any t1 M.down k W k1) (fun k => by cases k <;> rfl) (fun k => by cases k <;> rfl)
  unfold Mt.empty
  generalize M.does area Mt.clear = r at *
  unfold tptr at *
  clear h
  go_enter Try.func32, Try.ntmps32
  go_wp2_with fail
  refine c1.mono ?_
  rintro e w' ⟨rfl, hw⟩
  clear c1
  go_wp2_with fail
  go_ret
  exact ⟨rfl, hw⟩
end Go.Proofs.Ytfkchnjbbbhmjab
namespace Go.Proofs.Ytfkchnjbbbhmjab
open Go.RowKit
theorem RowAt.off {F : Nat → Prop} {w w' : World} {a : Option Addr} {zs : List Int} (h : RowAt w a zs) (ho : Off F w w') (hF : zs = [] ∨ ∀ x, a = some x → ¬ F x.block) : RowAt w' a zs := by
  refine ⟨h.1, h.2.1, ?_⟩
  rcases h.2.2 with q | ⟨b, off, rfl, h1, h2⟩
  · exact .inl q
  · rcases hF with q | q
    · exact .inl q
    · exact .inr ⟨b, off, rfl, Nat.lt_of_lt_of_le h1 ho.size, range_at h2 (ho.2 b h1 (q _ rfl))⟩
theorem Turned.below_l {w w1 w2 : World} {t : Tv} {M : Mt} (hb : Below w.heap.size w w1) (h : Turned w1 w2 t M) : Turned w w2 t M :=
  Turned.trans rfl (Off.of_below hb) (fun _ q => .inl q) h
/-- bytes that lie beside the tape -/
def Beside (t : Tv) (a : Option Addr) (zs : List Int) : Prop := zs = [] ∨ ∀ x, a = some x → ¬ t.own x.block
set_option maxRecDepth 100000 in
set_option maxHeartbeats 4000000 in
theorem tappend_any (t : Tv) (M : Mt) (area : Int) (a : Option Addr) (cap : Nat) (zs : List Int) (w : World) (h : TapeAt w t M) (hz : RowAt w a zs) (hbe : Beside t a zs) :
    Calls Try.prog 27 #[tptr t, .int .i64 area, .slice a zs.length cap] w fun e w' => e = .returned (.int .i64 (M.append area zs).1) ∧ Turned w w' t (M.append area zs).2 := by
  have hB1 : Below w.heap.size w (w.alloc (.cells #[.slice a zs.length cap] 34)) := (Below.refl _ _).alloc (Nat.le_refl _) _
  have hX1 : (w.alloc (.cells #[.slice a zs.length cap] 34)).cell? ⟨w.heap.size, 0, none⟩ = some (.slice a zs.length cap) := range_new w #[.slice a zs.length cap] 34 0 _ rfl
  have hl : zs.length ≤ 9223372036854775807 := by have := hz.1; unfold maxLen at this; omega
  have hXo : ¬ t.own w.heap.size := fun q => by have := h.own_lt q; omega
  have c1 := fun w0 (hb : Below w.heap.size w w0) => reach_any t M area w0 (h.below hb)
  have c2 := fun w0 (hb : Below w.heap.size w w0) => used_any t M w0 (h.below hb)
  have HD : Hid (¬ M.room - ((M.a.length : Int) + M.b.length) < zs.length → ∀ w0, Below w.heap.size w w0 → w0.cell? ⟨w.heap.size, 0, none⟩ = some (.slice a zs.length cap) →
      Calls Try.prog 41 #[tptr t, .int .i64 area, .func (.func 42) #[] #[.pointer (some ⟨w.heap.size, 0, none⟩)]] w0 fun e w' => e = .returned (.int .i64 (M.does area (Mt.put zs)).1) ∧ Turned w0 w' t (M.does area (Mt.put zs)).2) := hide (fun hroom w0 hb hX =>
    operate_any t M area 42 eg_app #[.pointer (some ⟨w.heap.size, 0, none⟩)] (Mt.put zs) w0 (h.below hb) (fun _ k W t1 k1 k2 k3 k4 => by
      have hXl : w.heap.size < w0.heap.size := World.block_lt_of_cell? w0 _ hX
      refine app1_any t1 M.down k w.heap.size a cap zs W k1 (cell_at hX (k3.2 _ hXl hXo)) (fun q => ?_) ((hz.below hb).off k3 hbe) ?_
      · rcases k4 _ q with q1 | q1
        · exact hXo q1
        · omega
      · exact k1.ok.put zs hz.2.1 hroom k) (fun k => by cases k <;> rfl) (fun k => by cases k <;> rfl))
  have HS : Hid (∀ w', Below w.heap.size w w' → Turned w w' t M) := hide (fun w' hb => Turned.same h hb)
  have q2 := fun w0 (hb : Below w.heap.size w w0) => (h.below hb).c2
  have hrm := h.ok.rm
  have hrl := h.ok.rl
  obtain ⟨W1, hW1⟩ : ∃ W1, w.alloc (.cells #[.slice a zs.length cap] 34) = W1 := ⟨_, rfl⟩
  rw [hW1] at hB1 hX1
  clear h hz hbe hXo
  unfold tptr at *
  unfold Mt.append
  by_cases hfa : M.fault area = 0
  · rw [hfa] at c1
    rw [if_pos hfa]
    clear hfa
    obtain ⟨u, hu⟩ : ∃ u, Hid (((M.a.length : Int) + M.b.length) = u) := ⟨_, hide rfl⟩
    have hu0 : 0 ≤ u := by rw [← hu.out]; omega
    rw [hu.out] at HD hrm ⊢
    simp only [hu.out] at c2
    clear hu
    obtain ⟨rm, hrmE⟩ : ∃ rm, Hid (M.room = rm) := ⟨_, hide rfl⟩
    rw [hrmE.out] at HD hrm hrl ⊢
    simp only [hrmE.out] at q2
    clear hrmE
    by_cases hroom : rm - u < zs.length
    · rw [if_pos hroom]
      have HR := hide hroom
      clear HD hroom
      go_enter Try.func27, Try.ntmps27
      go_wp2_with fail
      try rw [hW1]
      refine (c1 W1 hB1).mono ?_
      rintro e w' ⟨rfl, hw⟩
      obtain rfl := hw.symm
      clear c1 hw hW1
      go_wp2_with fail
      obtain ⟨w8, hw8⟩ : ∃ w8, W1.drew = w8 := ⟨_, rfl⟩
      have B8 : Below w.heap.size w w8 := by rw [← hw8]; exact hB1.drew
      have x8 : w8.cell? ⟨w.heap.size, 0, none⟩ = some (.slice a zs.length cap) := by rw [← hw8]; exact hX1
      have r8 := q2 w8 B8
      have hwr : IntKind.i64.wrap (rm - u) = rm - u := by rw [IntKind.wrap_i64]; omega
      refine hs_begin (S := fun w' => w' = w8) 10 rfl (by kernel_rfl) ?_
      rw [hw8]
      clear hw8 hX1 hB1
      have hS : (fun w' => w' = w8) w8 := rfl
      refine hs_take (i := 0) (d := some 14) (v := ?_) rfl (by kernel_rfl) (by kernel_rfl) (by kernel_rfl) (by rfl) ?_ hS rfl ?_
      rotate_left
      · intro w' hw
        obtain rfl : w8 = w' := hw.symm; have hc := x8
        go_simp
        try with_reducible rfl
      simp only [Act.put, List.setIfInBounds_toArray, List.set_cons_zero, List.set_cons_succ]
      refine hs_take (i := 1) (d := some 15) (v := ?_) rfl (by kernel_rfl) (by kernel_rfl) (by kernel_rfl) (by rfl) ?_ hS rfl ?_
      rotate_left
      · intro w' hw
        go_simp
        try with_reducible rfl
      simp only [Act.put, List.setIfInBounds_toArray, List.set_cons_zero, List.set_cons_succ]
      refine hs_take (i := 2) (d := some 16) (v := ?_) rfl (by kernel_rfl) (by kernel_rfl) (by kernel_rfl) (by rfl) ?_ hS rfl ?_
      rotate_left
      · intro w' hw
        go_simp
        try with_reducible rfl
      simp only [Act.put, List.setIfInBounds_toArray, List.set_cons_zero, List.set_cons_succ]
      refine hs_take (i := 3) (d := some 17) (v := ?_) rfl (by kernel_rfl) (by kernel_rfl) (by kernel_rfl) (by rfl) ?_ hS rfl ?_
      rotate_left
      · intro w' hw
        go_simp
        try with_reducible rfl
      simp only [Act.put, List.setIfInBounds_toArray, List.set_cons_zero, List.set_cons_succ]
      refine hs_take (i := 4) (d := some 18) (v := ?_) rfl (by kernel_rfl) (by kernel_rfl) (by kernel_rfl) (by rfl) ?_ hS rfl ?_
      rotate_left
      · intro w' hw
        go_simp
        try with_reducible rfl
      simp only [Act.put, List.setIfInBounds_toArray, List.set_cons_zero, List.set_cons_succ]
      refine hs_take (i := 5) (d := some 19) (v := ?_) rfl (by kernel_rfl) (by kernel_rfl) (by kernel_rfl) (by rfl) ?_ hS rfl ?_
      rotate_left
      · intro w' hw
        obtain rfl : w8 = w' := hw.symm; have hc := r8
        go_simp
        try with_reducible rfl
      simp only [Act.put, List.setIfInBounds_toArray, List.set_cons_zero, List.set_cons_succ]
      refine hs_take (i := 6) (d := some 20) (v := ?_) rfl (by kernel_rfl) (by kernel_rfl) (by kernel_rfl) (by rfl) ?_ hS rfl ?_
      rotate_left
      · intro w' hw
        go_simp
        try with_reducible rfl
      simp only [Act.put, List.setIfInBounds_toArray, List.set_cons_zero, List.set_cons_succ]
      refine hs_call (i := 7) (d := some 21) rfl (by kernel_rfl) (by rfl) (by go_simp; first | done | exact ⟨rfl, rfl⟩ | with_reducible rfl) rfl ?_
      refine (c2 w8 B8).mono ?_
      rintro e' w9 ⟨rfl, hx⟩
      obtain rfl := hx.symm
      clear hx
      refine ⟨_, rfl, rfl, ?_⟩
      simp only [Act.put, List.setIfInBounds_toArray, List.set_cons_zero, List.set_cons_succ]
      refine hs_take (i := 8) (d := some 22) (v := ?_) rfl (by kernel_rfl) (by kernel_rfl) (by kernel_rfl) (by rfl) ?_ hS rfl ?_
      rotate_left
      · intro w' hw
        go_simp
        try with_reducible rfl
      simp only [Act.put, List.setIfInBounds_toArray, List.set_cons_zero, List.set_cons_succ]
      have hroom := HR.out
      refine hs_take (i := 9) (d := some 23) (v := .bool true) rfl (by kernel_rfl) (by kernel_rfl) (by kernel_rfl) (by rfl) (fun w' hw => by go_simp) hS rfl ?_
      simp only [Act.put, List.setIfInBounds_toArray, List.set_cons_zero, List.set_cons_succ]
      refine hs_done (by kernel_rfl) ?_
      clear hS hwr hroom c2 q2
      go_wp2_with fail
      go_ret
      exact ⟨rfl, HS.out _ B8⟩
    · rw [if_neg hroom]
      have HR := hide hroom
      have c3' := fun w0 hb hx => HD.out hroom w0 hb hx
      clear HD hroom
      generalize M.does area (Mt.put zs) = rr at *
      go_enter Try.func27, Try.ntmps27
      go_wp2_with fail
      try rw [hW1]
      refine (c1 W1 hB1).mono ?_
      rintro e w' ⟨rfl, hw⟩
      obtain rfl := hw.symm
      clear c1 hw hW1
      go_wp2_with fail
      obtain ⟨w8, hw8⟩ : ∃ w8, W1.drew = w8 := ⟨_, rfl⟩
      have B8 : Below w.heap.size w w8 := by rw [← hw8]; exact hB1.drew
      have x8 : w8.cell? ⟨w.heap.size, 0, none⟩ = some (.slice a zs.length cap) := by rw [← hw8]; exact hX1
      have r8 := q2 w8 B8
      have hwr : IntKind.i64.wrap (rm - u) = rm - u := by rw [IntKind.wrap_i64]; omega
      refine hs_begin (S := fun w' => w' = w8) 10 rfl (by kernel_rfl) ?_
      rw [hw8]
      clear hw8 hX1 hB1
      have hS : (fun w' => w' = w8) w8 := rfl
      refine hs_take (i := 0) (d := some 14) (v := ?_) rfl (by kernel_rfl) (by kernel_rfl) (by kernel_rfl) (by rfl) ?_ hS rfl ?_
      rotate_left
      · intro w' hw
        obtain rfl : w8 = w' := hw.symm; have hc := x8
        go_simp
        try with_reducible rfl
      simp only [Act.put, List.setIfInBounds_toArray, List.set_cons_zero, List.set_cons_succ]
      refine hs_take (i := 1) (d := some 15) (v := ?_) rfl (by kernel_rfl) (by kernel_rfl) (by kernel_rfl) (by rfl) ?_ hS rfl ?_
      rotate_left
      · intro w' hw
        go_simp
        try with_reducible rfl
      simp only [Act.put, List.setIfInBounds_toArray, List.set_cons_zero, List.set_cons_succ]
      refine hs_take (i := 2) (d := some 16) (v := ?_) rfl (by kernel_rfl) (by kernel_rfl) (by kernel_rfl) (by rfl) ?_ hS rfl ?_
      rotate_left
      · intro w' hw
        go_simp
        try with_reducible rfl
      simp only [Act.put, List.setIfInBounds_toArray, List.set_cons_zero, List.set_cons_succ]
      refine hs_take (i := 3) (d := some 17) (v := ?_) rfl (by kernel_rfl) (by kernel_rfl) (by kernel_rfl) (by rfl) ?_ hS rfl ?_
      rotate_left
      · intro w' hw
        go_simp
        try with_reducible rfl
      simp only [Act.put, List.setIfInBounds_toArray, List.set_cons_zero, List.set_cons_succ]
      refine hs_take (i := 4) (d := some 18) (v := ?_) rfl (by kernel_rfl) (by kernel_rfl) (by kernel_rfl) (by rfl) ?_ hS rfl ?_
      rotate_left
      · intro w' hw
        go_simp
        try with_reducible rfl
      simp only [Act.put, List.setIfInBounds_toArray, List.set_cons_zero, List.set_cons_succ]
      refine hs_take (i := 5) (d := some 19) (v := ?_) rfl (by kernel_rfl) (by kernel_rfl) (by kernel_rfl) (by rfl) ?_ hS rfl ?_
      rotate_left
      · intro w' hw
        obtain rfl : w8 = w' := hw.symm; have hc := r8
        go_simp
        try with_reducible rfl
      simp only [Act.put, List.setIfInBounds_toArray, List.set_cons_zero, List.set_cons_succ]
      refine hs_take (i := 6) (d := some 20) (v := ?_) rfl (by kernel_rfl) (by kernel_rfl) (by kernel_rfl) (by rfl) ?_ hS rfl ?_
      rotate_left
      · intro w' hw
        go_simp
        try with_reducible rfl
      simp only [Act.put, List.setIfInBounds_toArray, List.set_cons_zero, List.set_cons_succ]
      refine hs_call (i := 7) (d := some 21) rfl (by kernel_rfl) (by rfl) (by go_simp; first | done | exact ⟨rfl, rfl⟩ | with_reducible rfl) rfl ?_
      refine (c2 w8 B8).mono ?_
      rintro e' w9 ⟨rfl, hx⟩
      obtain rfl := hx.symm
      clear hx
      refine ⟨_, rfl, rfl, ?_⟩
      simp only [Act.put, List.setIfInBounds_toArray, List.set_cons_zero, List.set_cons_succ]
      refine hs_take (i := 8) (d := some 22) (v := ?_) rfl (by kernel_rfl) (by kernel_rfl) (by kernel_rfl) (by rfl) ?_ hS rfl ?_
      rotate_left
      · intro w' hw
        go_simp
        try with_reducible rfl
      simp only [Act.put, List.setIfInBounds_toArray, List.set_cons_zero, List.set_cons_succ]
      have c3 := c3' w8 B8 x8
      have hroom := HR.out
      refine hs_take (i := 9) (d := some 23) (v := .bool false) rfl (by kernel_rfl) (by kernel_rfl) (by kernel_rfl) (by rfl) (fun w' hw => by go_simp) hS rfl ?_
      simp only [Act.put, List.setIfInBounds_toArray, List.set_cons_zero, List.set_cons_succ]
      refine hs_done (by kernel_rfl) ?_
      clear hS hwr hroom c2 q2 HS c3'
      go_wp2_with fail
      refine c3.mono ?_
      rintro e w' ⟨rfl, hw⟩
      clear c3
      go_wp2_with fail
      go_ret
      exact ⟨rfl, Turned.below_l B8 hw⟩
  · rw [if_neg hfa]
    obtain ⟨z, hz⟩ : ∃ z, Hid (M.fault area = z) := ⟨_, hide rfl⟩
    simp only [hz.out] at c1
    rw [hz.out] at hfa ⊢
    have hz0 : (z == 0) = false := by simpa using hfa
    clear hz hfa HD c2
    go_enter Try.func27, Try.ntmps27
    go_wp2_with fail
    try rw [hW1]
    refine (c1 W1 hB1).mono ?_
    rintro e w' ⟨rfl, hw⟩
    obtain rfl := hw.symm
    clear c1 hw hW1
    go_wp2_with fail
    go_ret
    exact ⟨rfl, HS.out _ hB1⟩
theorem clone_src {w : World} {a : Option Addr} {zs : List Int} (h : RowAt w a zs) : RowAt w a zs := h
set_option maxRecDepth 100000 in
set_option maxHeartbeats 2000000 in
theorem clone_any (a : Option Addr) (cap : Nat) (zs : List Int) (w : World) (h : RowAt w a zs) (hn : zs.length ≤ 1073741824) :
    Calls Try.prog 62 #[.slice a zs.length cap] w fun e w' => ∃ v, e = .returned v ∧ w'.ownsRow w.heap.size 5 1 v zs.length (v8 zs) ∧ Below w.heap.size w w' := by
  obtain ⟨i1, hi1, hiz, his, hib⟩ := info_parts info8
  cases a with
  | none =>
    have hnil : zs = [] := by
      rcases h.2.2 with q | ⟨b, off, hx, _⟩
      · exact q
      · cases hx
    subst hnil
    have hn := fun w => Lib.run_eql_slice_nil (P := Try.prog) w 34 5 none 0 cap 0 0 Try.underlying34
    go_enter Try.func62, Try.ntmps62
    go_wp2
    go_ret
    exact ⟨_, rfl, World.ownsRow_nil _ _ _ _, Below.refl _ _⟩
  | some x =>
    have hb1 : Below w.heap.size w (w.alloc (.cells #[] 5)) := (Below.refl _ _).alloc (Nat.le_refl _) _
    have hown1 : (w.alloc (.cells #[] 5)).ownsRow w.heap.size 5 1 (.slice (some ⟨w.heap.size, 0, none⟩) 0 0) 0 [] :=
      ⟨rfl, .inr ⟨w.heap.size, 0, #[], rfl, Nat.le_refl _, heap_alloc_new w _, Nat.le_refl _, by unfold maxLen; omega, rfl, rfl⟩⟩
    have hsrc := (h.below hb1).src cap
    have hn1 := fun w => Lib.run_eql_slice_nil (P := Try.prog) w 34 5 (some x) zs.length cap 0 0 Try.underlying34
    go_enter Try.func62, Try.ntmps62
    go_wp2_with (at_builtin; refine wpList_append_own_src _ rfl _ _ 34 34 rfl w.heap.size 5 i1 (.int .u8 0) 1 1 Try.underlying34 hi1 hiz his hib rfl _ 0 [] rfl hown1 (.slice (some x) zs.length cap) zs.length (v8 zs) rfl hsrc ?c1 ?c2 ?c3 ?_)
    case c1 => unfold maxLen; omega
    case c2 => omega
    case c3 => exact hb1.size
    intro v2 w2 hown2 hgrow2
    have hb2 : Below w.heap.size w w2 := hb1.grown hgrow2 hb1.size (fun k hk => (hown1.lt k hk).1)
    go_wp2
    go_ret
    exact ⟨_, rfl, by simpa using hown2, hb2⟩
set_option maxRecDepth 100000 in
set_option maxHeartbeats 2000000 in
theorem copied_any (p o : Nat) (a : Option Addr) (cap : Nat) (zs : List Int) (w : World) (hc : w.cell? ⟨p, o, none⟩ = some (.slice a zs.length cap)) (h : RowAt w a zs) (hn : zs.length ≤ 1073741824) :
    Calls Try.prog 53 #[.pointer (some ⟨p, o, none⟩)] w fun e w' => ∃ v, e = .returned v ∧ w'.ownsRow w.heap.size 5 1 v zs.length (v8 zs) ∧ Below w.heap.size w w' := by
  have c1 := clone_any a cap zs w h hn
  clear h
  go_enter Try.func53, Try.ntmps53
  go_wp2_with fail
  refine c1.mono ?_
  rintro e w' ⟨v, rfl, hw⟩
  clear c1
  go_wp2_with fail
  go_ret
  exact ⟨_, rfl, hw⟩
theorem TapeAt.row {w : World} {t : Tv} {M : Mt} (h : TapeAt w t M) (k : Bool) : ∃ a cap, t.v k = .slice a (M.get k).length cap ∧ RowAt w a (M.get k) ∧ (M.get k).length ≤ 1073741824 := by
  have h1 := h.ok.rm
  have h2 := h.ok.rl
  have hl : (M.get k).length ≤ 1073741824 := by cases k <;> simp only [Mt.get] <;> omega
  have hz : ∀ z ∈ M.get k, 0 ≤ z ∧ z < 256 := by
    cases k
    · exact h.ok.za
    · exact h.ok.zb
  obtain ⟨a, cap, h1, -, -, h2⟩ := own_bytes (h.ok' k) hz (by unfold maxLen; omega)
  exact ⟨a, cap, h1, h2, hl⟩
/-- what Read tells -/
def Mt.read (M : Mt) (area : Int) : List Int := if M.fault area = 0 then M.get (decide (area = 1)) else []
theorem Mt.fault_ok {M : Mt} {area : Int} (hfa : M.fault area = 0) : (area = 0 ∨ area = 1) ∧ M.on = true := by
  unfold Mt.fault at hfa
  split at hfa
  · rename_i q
    refine ⟨q, ?_⟩
    split at hfa
    · assumption
    · cases hfa
  · cases hfa
set_option maxRecDepth 100000 in
set_option maxHeartbeats 2000000 in
theorem tread_any (t : Tv) (M : Mt) (area : Int) (w : World) (h : TapeAt w t M) :
    Calls Try.prog 36 #[tptr t, .int .i64 area] w fun e w' => ∃ v, e = .returned (.tuple #[v, .int .i64 (M.fault area)]) ∧ w'.ownsRow w.heap.size 5 1 v (M.read area).length (v8 (M.read area)) ∧ Below w.heap.size w w' := by
  have c1 := reach_any t M area w h
  by_cases hfa : M.fault area = 0
  · have hr : M.read area = M.get (decide (area = 1)) := if_pos hfa
    rw [hr]
    rw [hfa] at c1 ⊢
    obtain ⟨a, cap, e1, e2, e3⟩ := h.row (decide (area = 1))
    have hc := h.ck (decide (area = 1))
    rw [e1] at hc
    have c2 := copied_any t.p (offA (decide (area = 1))) a cap _ w hc e2 e3
    have hx := (Mt.fault_ok hfa).1
    unfold tptr at *
    clear h hr hfa e1 e2 e3 hc
    rcases hx with rfl | rfl
    · rw [show offA (decide ((0 : Int) = 1)) = 3 from rfl, show decide ((0 : Int) = 1) = false from rfl] at c2
      rw [show decide ((0 : Int) = 1) = false from rfl]
      go_enter Try.func36, Try.ntmps36
      go_wp2_with fail
      refine c1.mono ?_
      rintro e w' ⟨rfl, hw⟩
      obtain rfl := hw.symm
      clear c1 hw
      go_wp2_with fail
      refine c2.mono ?_
      rintro e w' ⟨v, rfl, hw⟩
      clear c2
      go_wp2_with fail
      go_ret2
      exact ⟨_, rfl, hw⟩
    · rw [show offA (decide ((1 : Int) = 1)) = 5 from rfl, show decide ((1 : Int) = 1) = true from rfl] at c2
      rw [show decide ((1 : Int) = 1) = true from rfl]
      go_enter Try.func36, Try.ntmps36
      go_wp2_with fail
      refine c1.mono ?_
      rintro e w' ⟨rfl, hw⟩
      obtain rfl := hw.symm
      clear c1 hw
      go_wp2_with fail
      refine c2.mono ?_
      rintro e w' ⟨v, rfl, hw⟩
      clear c2
      go_wp2_with fail
      go_ret2
      exact ⟨_, rfl, hw⟩
  · have hr : M.read area = [] := if_neg hfa
    rw [hr]
    obtain ⟨z, hz⟩ : ∃ z, Hid (M.fault area = z) := ⟨_, hide rfl⟩
    rw [hz.out] at c1 hfa ⊢
    have hz0 : (z == 0) = false := by simpa using hfa
    have HP : Hid (w.ownsRow w.heap.size 5 1 (.slice none 0 0) 0 (v8 []) ∧ Below w.heap.size w w) := hide ⟨World.ownsRow_nil _ _ _ _, Below.refl _ _⟩
    unfold tptr at *
    clear h hr hfa hz
    go_enter Try.func36, Try.ntmps36
    go_wp2_with fail
    refine c1.mono ?_
    rintro e w' ⟨rfl, hw⟩
    obtain rfl := hw.symm
    clear c1 hw
    go_wp2_with fail
    go_ret2
    exact ⟨_, rfl, HP.out⟩
end Go.Proofs.Ytfkchnjbbbhmjab
namespace Go.Proofs.Ytfkchnjbbbhmjab
open Go.RowKit
/-- a tape at p; none of its blocks is one of A's -/
def Live (A : Nat → Prop) (w : World) (p : Nat) (M : Mt) : Prop := ∃ t : Tv, t.p = p ∧ TapeAt w t M ∧ ∀ b, t.own b → ¬ A b
theorem Live.ok {A : Nat → Prop} {w : World} {p : Nat} {M : Mt} (h : Live A w p M) : M.ok := by
  obtain ⟨t, -, h, -⟩ := h
  exact h.ok
theorem Live.lt {A : Nat → Prop} {w : World} {p : Nat} {M : Mt} (h : Live A w p M) : p < w.heap.size := by
  obtain ⟨t, rfl, h, -⟩ := h
  exact h.mono_x
theorem Live.below {A : Nat → Prop} {w w' : World} {p : Nat} {M : Mt} (h : Live A w p M) (hb : Below w.heap.size w w') : Live A w' p M := by
  obtain ⟨t, e, h, k⟩ := h
  exact ⟨t, e, h.below hb, k⟩
theorem Live.narrow {A A' : Nat → Prop} {w : World} {p : Nat} {M : Mt} (h : Live A w p M) (hA : ∀ b, A' b → A b) : Live A' w p M := by
  obtain ⟨t, e, h, k⟩ := h
  exact ⟨t, e, h, fun b q q1 => k b q (hA b q1)⟩
/-- what else was laid stays, too -/
def More (A : Nat → Prop) (w w1 : World) (b : Nat) : Prop := A b ∨ (w.heap.size ≤ b ∧ b < w1.heap.size)
theorem Live.widen {A : Nat → Prop} {w w1 : World} {p : Nat} {M : Mt} (h : Live A w p M) (hb : Below w.heap.size w w1) : Live (More A w w1) w1 p M := by
  obtain ⟨t, e, h, k⟩ := h
  refine ⟨t, e, h.below hb, fun b q q1 => ?_⟩
  rcases q1 with q1 | q1
  · exact k b q q1
  · have := h.own_lt q; omega
theorem More.lt {A : Nat → Prop} {w w1 : World} (hA : ∀ b, A b → b < w.heap.size) (hb : w.heap.size ≤ w1.heap.size) : ∀ b, More A w w1 b → b < w1.heap.size := by
  rintro b (q | q)
  · have := hA b q; omega
  · exact q.2
/-- an unlike tape's part -/
theorem Live.off {A F : Nat → Prop} {w w' : World} {p : Nat} {M : Mt} (h : Live A w p M) (ho : Off F w w') (hF : ∀ b, F b → A b) : Live A w' p M := by
  obtain ⟨t, e, h, k⟩ := h
  exact ⟨t, e, h.off ho (fun b q q1 => k b q (hF b q1)), k⟩
theorem Live.turn {A : Nat → Prop} {w w' : World} {t : Tv} {M' : Mt} (hk : ∀ b, t.own b → ¬ A b) (hA : ∀ b, A b → b < w.heap.size) (h : Turned w w' t M') : Live A w' t.p M' ∧ Off (fun b => ¬ A b) w w' := by
  obtain ⟨t', e1, e2, e3, e4⟩ := h
  refine ⟨⟨t', e1, e2, fun b q q1 => ?_⟩, e3.mono (fun b _ q => hk b q)⟩
  rcases e4 b q with q2 | q2
  · exact hk b q2 q1
  · have := hA b q1; omega
section
variable {A : Nat → Prop} {w : World} {p : Nat} {M : Mt}
theorem live_append (h : Live A w p M) (hA : ∀ b, A b → b < w.heap.size) (area : Int) (a : Option Addr) (cap : Nat) (zs : List Int) (hz : RowAt w a zs) (hbe : zs = [] ∨ ∀ x, a = some x → A x.block) :
    Calls Try.prog 27 #[.pointer (some ⟨p, 0, none⟩), .int .i64 area, .slice a zs.length cap] w fun e w' => e = .returned (.int .i64 (M.append area zs).1) ∧ Live A w' p (M.append area zs).2 ∧ Off (fun b => ¬ A b) w w' := by
  obtain ⟨t, rfl, h, k⟩ := h
  refine (tappend_any t M area a cap zs w h hz ?_).mono ?_
  · rcases hbe with q | q
    · exact .inl q
    · exact .inr (fun x hx q1 => k _ q1 (q x hx))
  · rintro e w' ⟨he, hw⟩
    exact ⟨he, Live.turn k hA hw⟩
theorem live_sync (h : Live A w p M) (hA : ∀ b, A b → b < w.heap.size) (area : Int) :
    Calls Try.prog 29 #[.pointer (some ⟨p, 0, none⟩), .int .i64 area] w fun e w' => e = .returned (.int .i64 (M.sync area).1) ∧ Live A w' p (M.sync area).2 ∧ Off (fun b => ¬ A b) w w' := by
  obtain ⟨t, rfl, h, k⟩ := h
  refine (tsync_any t M area w h).mono ?_
  rintro e w' ⟨he, hw⟩
  exact ⟨he, Live.turn k hA hw⟩
theorem live_clear (h : Live A w p M) (hA : ∀ b, A b → b < w.heap.size) (area : Int) :
    Calls Try.prog 32 #[.pointer (some ⟨p, 0, none⟩), .int .i64 area] w fun e w' => e = .returned (.int .i64 (M.empty area).1) ∧ Live A w' p (M.empty area).2 ∧ Off (fun b => ¬ A b) w w' := by
  obtain ⟨t, rfl, h, k⟩ := h
  refine (tclear_any t M area w h).mono ?_
  rintro e w' ⟨he, hw⟩
  exact ⟨he, Live.turn k hA hw⟩
theorem live_arm (h : Live A w p M) (hA : ∀ b, A b → b < w.heap.size) (n keep : Int) (hn : n ≤ 9223372036854775807) :
    Calls Try.prog 11 #[.pointer (some ⟨p, 0, none⟩), .int .i64 n, .int .i64 keep] w fun e w' => e = .returned (.int .i64 (M.arm n keep).1) ∧ Live A w' p (M.arm n keep).2 ∧ Off (fun b => ¬ A b) w w' := by
  obtain ⟨t, rfl, h, k⟩ := h
  refine (arm_any t M n keep w h hn).mono ?_
  rintro e w' ⟨he, hw⟩
  exact ⟨he, Live.turn k hA hw⟩
theorem live_fail (h : Live A w p M) (hA : ∀ b, A b → b < w.heap.size) (keep : Int) :
    Calls Try.prog 14 #[.pointer (some ⟨p, 0, none⟩), .int .i64 keep] w fun e w' => e = .returned (.int .i64 (M.fail keep).1) ∧ Live A w' p (M.fail keep).2 ∧ Off (fun b => ¬ A b) w w' := by
  obtain ⟨t, rfl, h, k⟩ := h
  refine (fail_any t M keep w h).mono ?_
  rintro e w' ⟨he, hw⟩
  exact ⟨he, Live.turn k hA hw⟩
theorem live_power (h : Live A w p M) (hA : ∀ b, A b → b < w.heap.size) :
    Calls Try.prog 15 #[.pointer (some ⟨p, 0, none⟩)] w fun e w' => e = .returned (.int .i64 0) ∧ Live A w' p { M with on := true } ∧ Off (fun b => ¬ A b) w w' := by
  obtain ⟨t, rfl, h, k⟩ := h
  refine (power_any t M w h).mono ?_
  rintro e w' ⟨he, hw⟩
  exact ⟨he, Live.turn k hA hw⟩
theorem Mt.read_ok {M : Mt} (h : M.ok) (area : Int) : (∀ z ∈ M.read area, 0 ≤ z ∧ z < 256) ∧ (M.read area).length ≤ 1073741824 := by
  have h1 := h.rm
  have h2 := h.rl
  unfold Mt.read
  split
  · cases decide (area = 1)
    · exact ⟨h.za, by simp only [Mt.get]; omega⟩
    · exact ⟨h.zb, by simp only [Mt.get]; omega⟩
  · simp
theorem live_read (h : Live A w p M) (area : Int) :
    Calls Try.prog 36 #[.pointer (some ⟨p, 0, none⟩), .int .i64 area] w fun e w' => ∃ a cap, e = .returned (.tuple #[.slice a (M.read area).length cap, .int .i64 (M.fault area)]) ∧ RowAt w' a (M.read area) ∧ Below w.heap.size w w' ∧ ∀ x, a = some x → w.heap.size ≤ x.block ∧ x.block < w'.heap.size := by
  obtain ⟨t, rfl, h, k⟩ := h
  refine (tread_any t M area w h).mono ?_
  rintro e w' ⟨v, he, hw, hb⟩
  have hr := Mt.read_ok h.ok area
  have hm : (M.read area).length ≤ maxLen := by have := hr.2; unfold maxLen; omega
  rcases own_range hw with ⟨rfl, h0, _⟩ | ⟨g, cap, rfl, hb', hg, hn, hcm, hrr⟩
  · have e0 : M.read area = [] := List.eq_nil_of_length_eq_zero h0
    rw [e0]
    exact ⟨none, 0, he, ⟨by unfold maxLen; simp, by simp, .inl rfl⟩, hb, fun x hx => by cases hx⟩
  · exact ⟨_, cap, he, ⟨hm, hr.1, .inr ⟨g, 0, rfl, hg, hrr⟩⟩, hb, fun x hx => by cases hx; exact ⟨hb', hg⟩⟩
theorem live_used (h : Live A w p M) : Calls Try.prog 40 #[.pointer (some ⟨p, 0, none⟩)] w fun e w' => e = .returned (.int .i64 ((M.a.length : Int) + M.b.length)) ∧ w' = w := by
  obtain ⟨t, rfl, h, k⟩ := h
  exact used_any t M w h
theorem live_sure (h : Live A w p M) (area : Int) : Calls Try.prog 35 #[.pointer (some ⟨p, 0, none⟩), .int .i64 area] w fun e w' => e = .returned (.int .i64 (if area = 0 then (M.sa : Int) else if area = 1 then (M.sb : Int) else 0)) ∧ w' = w := by
  obtain ⟨t, rfl, h, k⟩ := h
  exact sure_any t M area w h
theorem live_on (h : Live A w p M) : Calls Try.prog 34 #[.pointer (some ⟨p, 0, none⟩)] w fun e w' => e = .returned (.bool M.on) ∧ w' = w := by
  obtain ⟨t, rfl, h, k⟩ := h
  exact on_any t M w h
theorem live_counts (h : Live A w p M) : Calls Try.prog 37 #[.pointer (some ⟨p, 0, none⟩)] w fun e w' => e = .returned (.tuple #[.int .i64 M.ops, .int .i64 M.fa]) ∧ Below w.heap.size w w' := by
  obtain ⟨t, rfl, h, k⟩ := h
  exact counts_any t M w h
end
theorem live_new (room : Int) (w : World) (h0 : 0 ≤ room) (h1 : room ≤ 1073741824) :
    Calls Try.prog 9 #[.int .i64 room] w fun e w' => e = .returned (.pointer (some ⟨w.heap.size, 0, none⟩)) ∧ Below w.heap.size w w' ∧ Live (fun b => b < w.heap.size) w' w.heap.size (Mt.new room) := by
  refine (new_yes room w h0 h1).mono ?_
  rintro e w' ⟨he, hb, ht⟩
  refine ⟨he, hb, newTv w, rfl, ht, ?_⟩
  rintro b (q | q | q) h
  · rw [q] at h; simp [newTv] at h
  · simp [newTv, Value.ownBlock] at q
  · simp [newTv, Value.ownBlock] at q
end Go.Proofs.Ytfkchnjbbbhmjab
namespace Go.Proofs.Ytfkchnjbbbhmjab
open Go.RowKit
def strOf (zs : List Int) : ByteArray := zs.foldl (fun r n => r.push (UInt8.ofNat n.toNat)) ByteArray.empty
theorem row_str {w : World} {a : Option Addr} {cap : Nat} {zs : List Int} (h : RowAt w a zs) : (convert 34 9 (.slice a zs.length cap)).run Try.prog w = .ok (.string (strOf zs)) w := by
  rw [run_convert_bytes_string w 34 9 5 a zs.length cap Try.underlying34 Try.underlying5 Try.underlying9]
  cases a with
  | none =>
    have hnil : zs = [] := by
      rcases h.2.2 with q | ⟨b, off, hx, _⟩
      · exact q
      · cases hx
    subst hnil
    rfl
  | some x =>
    rcases h.2.2 with rfl | ⟨b, off, hx, _, hr⟩
    · have := run_loadCells_list (P := Try.prog) w x [] (fun j v hv => by simp at hv)
      exact run_bytesToString w x 0 cap [] this
    · cases hx
      have := run_loadCells_list (P := Try.prog) w ⟨b, off, none⟩ (v8 zs) (fun j v hv => by rw [Addr.add_mid]; exact hr j v hv)
      rw [v8_length] at this
      exact run_bytesToString w ⟨b, off, none⟩ zs.length cap zs this
theorem range_mark (w : World) (arr : Array Value) (t : TypeId) (m : Nat × Nat) : (w.alloc (.cells arr t m)).rangeAt w.heap.size 0 arr.toList := fun j v hv => by
  rw [World.cell?_alloc_mark, Nat.zero_add]
  simpa using hv
theorem mark_row (w : World) (zs : List Int) (m : Nat × Nat) (hz : ∀ z ∈ zs, 0 ≤ z ∧ z < 256) (hl : zs.length ≤ 1000) (arr : Array Value) (harr : arr.toList = v8 zs) : RowAt (w.alloc (.cells arr 5 m)) (some ⟨w.heap.size, 0, none⟩) zs := by
  have hr := range_mark w arr 5 m
  rw [harr] at hr
  exact ⟨by unfold maxLen; omega, hz, .inr ⟨w.heap.size, 0, rfl, by simp, hr⟩⟩
def L1 : Mt := ((Mt.new 100).append 0 [97, 98]).2
def L2 : Mt := (L1.sync 0).2
def L3 : Mt := (L2.append 0 [99, 100]).2
def L4 : Mt := (L3.fail 1).2
def L5 : Mt := { L4 with on := true }
theorem L1e : (Mt.new 100).append 0 [97, 98] = (0, L1) := rfl
theorem L2e : L1.sync 0 = (0, L2) := rfl
theorem L3e : L2.append 0 [99, 100] = (0, L3) := rfl
theorem L4e : L3.fail 1 = (0, L4) := rfl
theorem L5r : L5.read 0 = [97, 98, 99] := rfl
theorem L5f : L5.fault 0 = 0 := rfl
theorem L5s : L5.sa = 3 := rfl
theorem abc_str : strOf [97, 98, 99] = ⟨#[97, 98, 99]⟩ := by rfl
end Go.Proofs.Ytfkchnjbbbhmjab
namespace Go.Proofs.Ytfkchnjbbbhmjab
open Go Go.RowKit
section
variable {P : Program} {ops : Array Oper} {Q : Exit → Act → World → Prop}
def StepS (P : Program) (ops : Array Oper) (Q : Exit → Act → World → Prop) (S : World → Prop) (fuel : Nat) (listed : Array Bool) (i : Nat) (a : Act) (w : World) : Prop :=
  wpOp P ops (NoPanic Q) i (fun a' w' => S w' ∧ wpAnyH P .any ops (NoPanic Q) S fuel (listed.setIfInBounds i true) a' w') a w
theorem hs_fork {i j : Nat} {S : World → Prop} {fuel : Nat} {listed : Array Bool} {a : Act} {w : World} (hr : Region.ready .any ops listed = [i, j])
    (h1 : StepS P ops Q S fuel listed i a w) (h2 : StepS P ops Q S fuel listed j a w) : HeldS P ops Q S (fuel + 1) listed a w := by
  refine wpAnyH_all hr (by simp) ?_
  intro k hk
  rcases List.mem_cons.1 hk with rfl | hk
  · exact h1
  · obtain rfl := List.mem_singleton.1 hk
    exact h2
theorem st_call {i : Nat} {S : World → Prop} {oi : Oper} {d : Option Nat} {f : FuncId} {args : Array Value} {fuel : Nat} {listed : Array Bool} {a : Act} {w : World} (hi : ops[i]? = some oi)
    (hw : Region.wanted oi (yielded ops a.tmps) = true) (hy : (execOp a.eval oi).run P w = .ok (.enter f args) w) (hdst : oi.dst = d)
    (h : Calls P f args w fun e w' => ∃ v, e = .returned v ∧ S w' ∧ HeldS P ops Q S fuel (listed.setIfInBounds i true) (a.put d v) w') : StepS P ops Q S fuel listed i a w := by
  subst hdst
  unfold StepS wpOp
  simp only [hi, hw, if_true]
  left
  unfold Oper.wp
  rw [hy]
  refine h.mono ?_
  rintro e w' ⟨v, rfl, hb, hk⟩
  exact ⟨hb, hk⟩
theorem st_run {i : Nat} {S : World → Prop} {oi : Oper} {d : Option Nat} {v : Value} {fuel : Nat} {listed : Array Bool} {a : Act} {w w' : World} (hi : ops[i]? = some oi)
    (hw : Region.wanted oi (yielded ops a.tmps) = true) (hy : (execOp a.eval oi).run P w = .ok (.value v) w') (hdst : oi.dst = d)
    (hS : S w') (h : HeldS P ops Q S fuel (listed.setIfInBounds i true) (a.put d v) w') : StepS P ops Q S fuel listed i a w := by
  subst hdst
  unfold StepS wpOp
  simp only [hi, hw, if_true]
  left
  unfold Oper.wp
  rw [hy]
  exact ⟨hS, h⟩
end
end Go.Proofs.Ytfkchnjbbbhmjab
namespace Go.Proofs.Ytfkchnjbbbhmjab
open Go.RowKit
theorem gb_refl (w : World) (r : Option Nat) : w.grownBy w r := ⟨rfl, rfl, rfl, Nat.le_refl _, fun _ _ _ => rfl⟩
theorem gb_trans {w w1 w2 : World} {r : Option Nat} (h : w.grownBy w1 r) (k : w1.grownBy w2 r) : w.grownBy w2 r :=
  ⟨k.os.trans h.os, k.tape.trans h.tape, k.output.trans h.output, Nat.le_trans h.size k.size, fun i hi hr => (k.block i (Nat.lt_of_lt_of_le hi h.size) hr).trans (h.block i hi hr)⟩
theorem gb_set (w : World) (R j : Nat) (v : Value) : w.grownBy (w.setCell ⟨R, j, none⟩ v) (some R) :=
  ⟨rfl, rfl, rfl, by simp [World.setCell], fun k _ hk => Below.heap_setCell w _ v k (fun e => hk (by rw [e]))⟩
theorem gb_below {w w' : World} (h : Below w.heap.size w w') (r : Option Nat) : w.grownBy w' r := ⟨h.os, h.tape, h.output, h.size, fun k hk _ => h.block k hk⟩
theorem gb_drew {w w' : World} {r : Option Nat} (h : w.grownBy w' r) : w.grownBy w'.drew r := ⟨h.os, h.tape, h.output, h.size, h.block⟩
theorem gb_drewN {w w' : World} {r : Option Nat} (h : w.grownBy w' r) (n : Nat) : w.grownBy (w'.drewN n) r := ⟨h.os, h.tape, h.output, h.size, h.block⟩
theorem range_gb {w w' : World} {R b o : Nat} {cs : List Value} (h : w.rangeAt b o cs) (g : w.grownBy w' (some R)) (hn : b ≠ R) : w'.rangeAt b o cs := fun j v hv => g.cell (h j v hv) (by simpa using hn)
theorem RowAt.gb {w w' : World} {a : Option Addr} {zs : List Int} {R : Nat} (h : RowAt w a zs) (hb : w.grownBy w' (some R)) (hne : zs = [] ∨ ∀ x, a = some x → x.block ≠ R) : RowAt w' a zs := by
  refine ⟨h.1, h.2.1, ?_⟩
  rcases h.2.2 with h | ⟨b, off, rfl, h1, h2⟩
  · exact Or.inl h
  · rcases hne with hne | hne
    · exact Or.inl hne
    · exact Or.inr ⟨b, off, rfl, Nat.lt_of_lt_of_le h1 hb.size, range_gb h2 hb (hne _ rfl)⟩
theorem gb_sets (R : Nat) : ∀ (vs : List Value) (o : Nat) (w : World), w.grownBy (w.setCells R o vs) (some R)
  | [], _, w => gb_refl w _
  | v :: r, o, w => gb_trans (gb_set w R o v) (gb_sets R r (o + 1) _)
theorem RowAt.get {w : World} {a : Option Addr} {zs : List Int} (h : RowAt w a zs) (k : Nat) (hk : k < zs.length) : ∃ b off, a = some ⟨b, off, none⟩ ∧ b < w.heap.size ∧ w.cell? ⟨b, off + k, none⟩ = some (.int .u8 (zs.getD k 0)) ∧ 0 ≤ zs.getD k 0 ∧ zs.getD k 0 < 256 := by
  rcases h.2.2 with rfl | ⟨b, off, rfl, hb, hr⟩
  · simp at hk
  · refine ⟨b, off, rfl, hb, get8 hr hk, ?_⟩
    rw [List.getD_eq_getElem?_getD, List.getElem?_eq_getElem hk]
    exact h.2.1 _ (List.getElem_mem hk)
end Go.Proofs.Ytfkchnjbbbhmjab
namespace Go.Proofs.Ytfkchnjbbbhmjab.Ty
open Go.RowKit
namespace Tal
end Tal
theorem row_str {w : World} {b off cap : Nat} {zs : List Int} (h : w.rangeAt b off (v8 zs)) : (convert 34 9 (.slice (some ⟨b, off, none⟩) zs.length cap)).run Try.prog w = .ok (.string (strOf zs)) w := by
  rw [run_convert_bytes_string w 34 9 5 (some ⟨b, off, none⟩) zs.length cap Try.underlying34 Try.underlying5 Try.underlying9]
  have := run_loadCells_list (P := Try.prog) w ⟨b, off, none⟩ (v8 zs) (fun j v hv => by rw [Addr.add_mid]; exact h j v hv)
  rw [v8_length] at this
  exact run_bytesToString w ⟨b, off, none⟩ zs.length cap zs this
end Go.Proofs.Ytfkchnjbbbhmjab.Ty
namespace Go.Proofs.Ytfkchnjbbbhmjab.Ty
open Go.RowKit
/-- what is left of x behind s bits, a byte of it at most: the bits of x are s more -/
theorem len_arm (x s : Nat) (y : Int) (hx : x < 2 ^ 63) (hy0 : 0 ≤ y) (hy1 : y ≤ 255) (hy : y.toNat = x / 2 ^ s) (h : s = 0 ∨ 2 ^ s ≤ x) :
    Lib.len8 y = (Lib.bitLen x : Int) - s ∧ (Lib.bitLen x : Int) - s ≤ 8 ∧ 0 ≤ (Lib.bitLen x : Int) - s := by
  have e : Lib.bitLen x = s + Lib.bitLen (x / 2 ^ s) := by
    rcases h with rfl | h
    · simp
    · exact Lib.bitLen_shift s x h (by omega)
  have l := Lib.bitLen_le8' y hy0 hy1
  rw [Lib.len8_of y hy0 hy1, hy]
  rw [hy] at l
  omega
/-- an index into the table of math/bits, however its text lies in the program -/
theorem wpList_index_len8 {P : Program} {w : World} {ops : Array Oper} {rest : List Oper} {o : Oper} {a : Act} {Q : Exit → Act → World → Prop} (hgd : o.guard = none) (t : TypeId) (tbl : ByteArray) (x : Operand)
    (ho : o.op = .index t (.const (.string tbl)) x) (ht : P.underlying t = some .string) (htbl : tbl = Lib.len8tab) (k : IntKind) (i : Int) (hx : a.eval x = .int k i) (h0 : 0 ≤ i) (h1 : i ≤ 255)
    (h : wpList P ops Q rest (a.put o.dst (.int .u8 (Lib.len8 i))) w) : wpList P ops Q (o :: rest) a w := by
  subst htbl
  refine wpList_plain hgd fun K hK => ?_
  have hr := Lib.run_index_len8tab (P := P) w t k i ht h0 h1
  have hc : a.eval (.const (.string Lib.len8tab)) = .string Lib.len8tab := rfl
  unfold Oper.wp execOp
  simp only [ho, Sem.run_bind, hc, hx, hr, Result.andThen_ok, Sem.run_pure]
  exact hK _ _ h
theorem fold_tab (a b c d : List UInt8) (h : ByteArray.mk ((a.append b).append (c.append d)).toArray = Lib.len8tab) : ByteArray.mk ((a.append b).append (c.append d)).toArray = Lib.len8tab := h
set_option maxHeartbeats 4000000 in
set_option maxRecDepth 100000 in
theorem len64_int (x : Int) (w : World) (h0 : 0 ≤ x) (h1 : x ≤ 9223372036854775807) :
    Calls Try.prog 68 #[.int .u64 x] w fun e w' => e = .returned (.int .i64 (Lib.bitLen x.toNat)) ∧ w' = w := by
  go_enter Try.func68, Try.ntmps68
  rw [fold_tab _ _ _ _ (by kernel_rfl)]
  go_wp2_with (refine wpList_index_len8 rfl 9 Lib.len8tab _ rfl Try.underlying9 rfl .u8 _ rfl ?_ ?_ ?_; (omega); (omega))
  all_goals (go_ret; refine ⟨congrArg Ending.returned (congrArg (Value.int IntKind.i64) ?_), rfl⟩)
  all_goals first
    | (obtain ⟨e, l, m⟩ := len_arm x.toNat 56 (x / 4294967296 / 65536 / 256) (by omega) (by omega) (by omega) (by omega) (by omega); rw [e]; simp only [wrap64]; omega)
    | (obtain ⟨e, l, m⟩ := len_arm x.toNat 48 (x / 4294967296 / 65536) (by omega) (by omega) (by omega) (by omega) (by omega); rw [e]; simp only [wrap64]; omega)
    | (obtain ⟨e, l, m⟩ := len_arm x.toNat 40 (x / 4294967296 / 256) (by omega) (by omega) (by omega) (by omega) (by omega); rw [e]; simp only [wrap64]; omega)
    | (obtain ⟨e, l, m⟩ := len_arm x.toNat 32 (x / 4294967296) (by omega) (by omega) (by omega) (by omega) (by omega); rw [e]; simp only [wrap64]; omega)
    | (obtain ⟨e, l, m⟩ := len_arm x.toNat 24 (x / 65536 / 256) (by omega) (by omega) (by omega) (by omega) (by omega); rw [e]; simp only [wrap64]; omega)
    | (obtain ⟨e, l, m⟩ := len_arm x.toNat 16 (x / 65536) (by omega) (by omega) (by omega) (by omega) (by omega); rw [e]; simp only [wrap64]; omega)
    | (obtain ⟨e, l, m⟩ := len_arm x.toNat 8 (x / 256) (by omega) (by omega) (by omega) (by omega) (by omega); rw [e]; simp only [wrap64]; omega)
    | (obtain ⟨e, l, m⟩ := len_arm x.toNat 0 (x) (by omega) (by omega) (by omega) (by omega) (by omega); rw [e]; simp only [wrap64]; omega)
end Go.Proofs.Ytfkchnjbbbhmjab.Ty
namespace Go.Proofs.Ytfkchnjbbbhmjab.Ty
namespace Tal
open Go

/-- how many bytes a number has -/
def wid (n : Nat) : Nat := (Lib.bitLen n + 7) / 8
/-- the lowest k digits, the highest of them first -/
def digK : Nat → Nat → List Int
  | 0, _ => []
  | k + 1, n => digK k (n / 256) ++ [((n % 256 : Nat) : Int)]
def digs (n : Nat) : List Int := digK (wid n) n
/-- a number's bytes -/
def numB (n : Nat) : List Int := (wid n : Int) :: digs n
/-- what Put lays behind -/
def putL (n : Int) : List Int := if n < 0 then [] else numB n.toNat

theorem wid_zero : wid 0 = 0 := by decide
theorem wid_succ (n : Nat) (h0 : 0 < n) (h : n < 2 ^ 63) : wid n = wid (n / 256) + 1 := by
  unfold wid
  by_cases h2 : 256 ≤ n
  · rw [Lib.bitLen_shift8 n h2 (by omega)]; omega
  · have e : n / 256 = 0 := by omega
    have h3 := Lib.bitLen_half n (by omega) (by omega)
    have h4 := Lib.bitLen_le8 ⟨n, by omega⟩
    simp only at h4
    rw [e]
    have : Lib.bitLen 0 = 0 := by decide
    rw [this]
    omega
theorem wid_bounds : ∀ (k n : Nat), n < 2 ^ 63 → n < 256 ^ k → wid n ≤ k ∧ n < 256 ^ wid n ∧ (0 < n → 0 < wid n ∧ 256 ^ (wid n - 1) ≤ n)
  | 0, n, _, h => by
    have : n = 0 := by simpa using h
    subst this
    rw [wid_zero]; simp
  | k + 1, n, hn, h => by
    by_cases h0 : n = 0
    · subst h0; rw [wid_zero]; simp
    · have hs := wid_succ n (by omega) hn
      obtain ⟨a, b, c⟩ := wid_bounds k (n / 256) (by omega) (by rw [Nat.pow_succ] at h; omega)
      rw [hs]
      refine ⟨by omega, by rw [Nat.pow_succ]; omega, fun _ => ⟨by omega, ?_⟩⟩
      rw [Nat.add_sub_cancel]
      by_cases h1 : n / 256 = 0
      · rw [h1, wid_zero]; simp; omega
      · obtain ⟨c1, c2⟩ := c (by omega)
        have : wid (n / 256) = wid (n / 256) - 1 + 1 := by omega
        rw [this, Nat.pow_succ]
        omega
theorem wid_le (n : Nat) (h : n < 2 ^ 63) : wid n ≤ 8 := (wid_bounds 8 n h (by omega)).1

theorem digK_length : ∀ k n, (digK k n).length = k
  | 0, _ => rfl
  | k + 1, n => by simp [digK, digK_length k]
theorem digK_byte : ∀ k n, ∀ z ∈ digK k n, 0 ≤ z ∧ z < 256
  | 0, _, z, h => by simp [digK] at h
  | k + 1, n, z, h => by
    simp only [digK, List.mem_append, List.mem_singleton] at h
    rcases h with h | rfl
    · exact digK_byte k _ z h
    · omega
theorem digK_get : ∀ k n i, i < k → (digK k n).getD i 0 = ((n / 256 ^ (k - 1 - i) % 256 : Nat) : Int)
  | 0, _, _, h => by omega
  | k + 1, n, i, h => by
    simp only [digK, List.getD_eq_getElem?_getD]
    by_cases hi : i < k
    · rw [List.getElem?_append_left (by rw [digK_length]; exact hi), ← List.getD_eq_getElem?_getD, digK_get k (n / 256) i hi, Nat.div_div_eq_div_mul]
      have e : k + 1 - 1 - i = (k - 1 - i) + 1 := by omega
      rw [e, Nat.pow_succ, Nat.mul_comm]
    · have e : i = k := by omega
      subst e
      rw [List.getElem?_append_right (by rw [digK_length]; exact Nat.le_refl _), digK_length]
      simp
theorem digs_zero : digs 0 = [] := by unfold digs; rw [wid_zero]; rfl
theorem digs_succ (n : Nat) (h0 : 0 < n) (h : n < 2 ^ 63) : digs n = digs (n / 256) ++ [((n % 256 : Nat) : Int)] := by
  unfold digs
  rw [wid_succ n h0 h]; rfl
theorem digs_length (n : Nat) : (digs n).length = wid n := digK_length _ _
theorem digs_byte (n : Nat) : ∀ z ∈ digs n, 0 ≤ z ∧ z < 256 := digK_byte _ _
theorem putL_byte (n : Int) (h : n < 2 ^ 63) : ∀ z ∈ putL n, 0 ≤ z ∧ z < 256 := by
  intro z hz
  unfold putL at hz
  split at hz
  · simp at hz
  · simp only [numB, List.mem_cons] at hz
    rcases hz with rfl | hz
    · have := wid_le n.toNat (by omega); omega
    · exact digs_byte _ z hz
theorem putL_length (n : Int) (h : n < 2 ^ 63) : (putL n).length ≤ 9 := by
  unfold putL
  split
  · simp
  · simp only [numB, List.length_cons, digs_length]
    have := wid_le n.toNat (by omega); omega

/-- back -/
def val (l : List Int) : Int := l.foldl (fun a d => a * 256 + d) 0
theorem val_snoc (l : List Int) (d : Int) : val (l ++ [d]) = val l * 256 + d := by simp [val, List.foldl_append]
theorem val_digK : ∀ k n, val (digK k n) = ((n % 256 ^ k : Nat) : Int)
  | 0, n => by simp [digK, val, Nat.mod_one]
  | k + 1, n => by
    rw [digK, val_snoc, val_digK k (n / 256), Nat.pow_succ, Nat.mul_comm (256 ^ k) 256, Nat.mod_mul]
    omega
theorem val_digs (n : Nat) (h : n < 2 ^ 63) : val (digs n) = n := by
  unfold digs
  rw [val_digK, Nat.mod_eq_of_lt (wid_bounds 8 n h (by omega)).2.1]
end Tal
end Go.Proofs.Ytfkchnjbbbhmjab.Ty
