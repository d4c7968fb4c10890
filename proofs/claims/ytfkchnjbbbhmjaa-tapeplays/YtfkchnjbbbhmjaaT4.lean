/- tape: New, Power, Arm, lose, Fail -/
import Derived.Test.YtfkchnjbbbhmjaaT3
namespace Go.Proofs.Ytfkchnjbbbhmjaa
open Go.RowKit
/-- one block was written; what it holds -/
structure CellsAt (w wr : World) (p : Nat) (cs : List Value) : Prop where
  off : Off (fun b => b = p) w wr
  r : wr.rangeAt p 0 cs
  th : wr.there p 0 12
theorem CellsAt.start {w : World} {t : Tv} {M : Mt} (h : TapeAt w t M) : CellsAt w w t.p (tcells t M) := ⟨Off.refl _ _, h.r, h.th⟩
theorem CellsAt.set {w wr : World} {p : Nat} {cs : List Value} (h : CellsAt w wr p cs) (i : Nat) (v : Value) : CellsAt w (wr.setCell ⟨p, i, none⟩ v) p (cs.set i v) :=
  ⟨h.off.trans (Off.of_setCell (F := fun b => b = p) wr _ _ rfl) (fun _ _ q => q), by have := range_set h.r i v; rwa [Nat.zero_add] at this, there_set h.th _ _⟩
theorem CellsAt.below {w wr wr' : World} {p : Nat} {cs : List Value} (h : CellsAt w wr p cs) (hb : Below wr.heap.size wr wr') : CellsAt w wr' p cs :=
  have hp := there_lt h.th (by omega)
  ⟨h.off.below_r hb, range_at h.r (hb.block p hp), there_at h.th (hb.block p hp)⟩
theorem CellsAt.cell {w wr : World} {p : Nat} {cs : List Value} (h : CellsAt w wr p cs) (i : Nat) {v : Value} (hv : cs[i]? = some v) : wr.cell? ⟨p, i, none⟩ = some v := by
  have := h.r i v hv
  rwa [Nat.zero_add] at this
theorem CellsAt.fz {w wr : World} {p : Nat} {cs : List Value} (h : CellsAt w wr p cs) (i : Nat) (hi : i < 12) : wr.frozen? ⟨p, i, none⟩ = false := by
  have := (h.th i hi).2
  rwa [Nat.zero_add] at this
theorem TapeAt.of_cells {w wr : World} {t : Tv} {M : Mt} (h : CellsAt w wr t.p (tcells t M)) (oa : w.ownsRow 0 5 1 t.va M.a.length (v8 M.a)) (ob : w.ownsRow 0 5 1 t.vb M.b.length (v8 M.b))
    (ap : ∀ g, t.va.ownBlock = some g → g ≠ t.p ∧ t.vb.ownBlock ≠ some g) (bp : ∀ g, t.vb.ownBlock = some g → g ≠ t.p) (px : M.pl = true → t.x = M.af ∧ t.y = M.ke) (ok : M.ok) : TapeAt wr t M :=
  ⟨h.r, h.th, owns_at oa (fun g hg => h.off.2 g (owns_lt oa hg) (ap g hg).1), owns_at ob (fun g hg => h.off.2 g (owns_lt ob hg) (bp g hg)), ap, bp, px, ok⟩
theorem Turned.of_cells {w wr : World} {t t' : Tv} {M M' : Mt} (h : TapeAt w t M) (hc : CellsAt w wr t.p (tcells t' M')) (hp : t'.p = t.p) (oa : w.ownsRow 0 5 1 t'.va M'.a.length (v8 M'.a)) (ob : w.ownsRow 0 5 1 t'.vb M'.b.length (v8 M'.b))
    (ea : t'.va.ownBlock = none ∨ t'.va.ownBlock = t.va.ownBlock) (eb : t'.vb.ownBlock = none ∨ t'.vb.ownBlock = t.vb.ownBlock) (px : M'.pl = true → t'.x = M'.af ∧ t'.y = M'.ke) (ok : M'.ok) : Turned w wr t M' := by
  have ea' : ∀ g, t'.va.ownBlock = some g → t.va.ownBlock = some g := fun g hg => by
    rcases ea with q | q
    · rw [q] at hg; cases hg
    · rw [← q]; exact hg
  have eb' : ∀ g, t'.vb.ownBlock = some g → t.vb.ownBlock = some g := fun g hg => by
    rcases eb with q | q
    · rw [q] at hg; cases hg
    · rw [← q]; exact hg
  refine ⟨t', hp, TapeAt.of_cells (by rw [hp]; exact hc) oa ob (fun g hg => ?_) (fun g hg => ?_) px ok, hc.off.mono (fun b _ q => .inl q), fun b hb => ?_⟩
  · rw [hp]
    exact ⟨(h.ap g (ea' g hg)).1, fun q => (h.ap g (ea' g hg)).2 (eb' g q)⟩
  · rw [hp]; exact h.bp g (eb' g hg)
  · rcases hb with q | q | q
    · exact .inl (.inl (q.trans hp))
    · exact .inl (.inr (.inl (ea' b q)))
    · exact .inl (.inr (.inr (eb' b q)))
def newTv (w : World) : Tv := ⟨w.heap.size, .slice none 0 0, .slice none 0 0, 0, 0⟩
set_option maxRecDepth 100000 in
set_option maxHeartbeats 2000000 in
theorem new_yes (room : Int) (w : World) (h0 : 0 ≤ room) (h1 : room ≤ 1073741824) :
    Calls Try.prog 8 #[.int .i64 room] w fun e w' => e = .returned (tptr (newTv w)) ∧ Below w.heap.size w w' ∧ TapeAt w' (newTv w) (Mt.new room) := by
  have hr := range_new w (tcells (newTv w) (Mt.new room)).toArray 55
  have ht := there_new w (tcells (newTv w) (Mt.new room)).toArray 55
  have hB : Below w.heap.size w (w.alloc (.cells (tcells (newTv w) (Mt.new room)).toArray 55)) := (Below.refl _ _).alloc (Nat.le_refl _) _
  have hT : TapeAt (w.alloc (.cells (tcells (newTv w) (Mt.new room)).toArray 55)) (newTv w) (Mt.new room) :=
    ⟨hr, ht, World.ownsRow_nil _ _ _ _, World.ownsRow_nil _ _ _ _, (fun g hg => by simp [newTv, Value.ownBlock] at hg), (fun g hg => by simp [newTv, Value.ownBlock] at hg), (fun q => by cases q), Mt.ok.new h0 h1⟩
  have HP := hide (And.intro hB hT)
  clear hB hT hr ht
  have e : (tcells (newTv w) (Mt.new room)).toArray = #[.bool true, .bool true, .int .i64 room, .slice none 0 0, .int .i64 0, .slice none 0 0, .int .i64 0, .bool false, .int .i64 0, .int .i64 0, .int .i64 0, .int .i64 0] := rfl
  rw [e] at HP
  clear e
  unfold tptr
  go_enter Try.func8, Try.ntmps8
  go_wp2_with fail
  go_ret
  exact ⟨rfl, HP.out.1, HP.out.2⟩
set_option maxRecDepth 100000 in
set_option maxHeartbeats 2000000 in
theorem new_no (room : Int) (w : World) (h : room < 0 ∨ 1073741824 < room) :
    Calls Try.prog 8 #[.int .i64 room] w fun e w' => e = .returned (.pointer none) ∧ w' = w := by
  by_cases h0 : room < 0
  · clear h
    go_enter Try.func8, Try.ntmps8
    go_wp2_with fail
    go_ret
    exact ⟨rfl, rfl⟩
  · have h1 : 1073741824 < room := by omega
    clear h
    go_enter Try.func8, Try.ntmps8
    go_wp2_with fail
    go_ret
    exact ⟨rfl, rfl⟩
set_option maxRecDepth 100000 in
set_option maxHeartbeats 2000000 in
theorem power_any (t : Tv) (M : Mt) (w : World) (h : TapeAt w t M) :
    Calls Try.prog 18 #[tptr t] w fun e w' => e = .returned (.int .i64 0) ∧ Turned w w' t { M with on := true } := by
  have c1 := isMade_any t M w h
  have q1 := h.c1
  have f1 := h.fz 1 (by omega)
  have HT : Hid (Turned w (w.setCell ⟨t.p, 1, none⟩ (.bool true)) t { M with on := true }) := hide (Turned.of_cells h ((CellsAt.start h).set 1 (.bool true)) rfl h.oa h.ob (.inr rfl) (.inr rfl) h.px h.ok.power)
  clear h
  unfold tptr at *
  go_enter Try.func18, Try.ntmps18
  go_wp2_with fail
  refine c1.mono ?_
  rintro e w' ⟨rfl, hw⟩
  obtain rfl := hw.symm
  clear c1 hw
  go_wp2_with fail
  go_ret
  exact ⟨rfl, HT.out⟩
set_option maxRecDepth 100000 in
set_option maxHeartbeats 2000000 in
theorem arm_any (t : Tv) (M : Mt) (n keep : Int) (w : World) (h : TapeAt w t M) (hn : n ≤ 9223372036854775807) :
    Calls Try.prog 24 #[tptr t, .int .i64 n, .int .i64 keep] w fun e w' => e = .returned (.int .i64 (M.arm n keep).1) ∧ Turned w w' t (M.arm n keep).2 := by
  have c1 := isMade_any t M w h
  have q1 := h.c1
  have q7 := h.c7
  have q8 := h.c8
  have q9 := h.c9
  have f7 := h.fz 7 (by omega)
  have f8 := h.fz 8 (by omega)
  have f9 := h.fz 9 (by omega)
  have hok := h.ok.arm hn keep
  unfold Mt.arm at *
  unfold tptr at *
  by_cases hn0 : n < 0
  · rw [if_pos hn0]
    have HT : Hid (Turned w w t M) := hide (Turned.same h (Below.refl _ _))
    clear h hok
    go_enter Try.func24, Try.ntmps24
    go_wp2_with fail
    refine c1.mono ?_
    rintro e w' ⟨rfl, hw⟩
    obtain rfl := hw.symm
    clear c1 hw
    go_wp2_with fail
    go_ret
    exact ⟨rfl, HT.out⟩
  · rw [if_neg hn0] at hok ⊢
    by_cases hon : M.on = true
    rotate_left
    · rw [if_neg hon]
      have hon : M.on = false := by simpa using hon
      rw [hon] at q1
      have HT : Hid (Turned w w t M) := hide (Turned.same h (Below.refl _ _))
      clear h hok hon
      go_enter Try.func24, Try.ntmps24
      go_wp2_with fail
      refine c1.mono ?_
      rintro e w' ⟨rfl, hw⟩
      obtain rfl := hw.symm
      clear c1 hw
      go_wp2_with fail
      go_ret
      exact ⟨rfl, HT.out⟩
    · rw [hon] at q1
      rw [if_pos hon] at hok
      rw [if_pos hon]
      have HT : Hid (Turned w (((w.setCell ⟨t.p, 7, none⟩ (.bool true)).setCell ⟨t.p, 8, none⟩ (.int .i64 n)).setCell ⟨t.p, 9, none⟩ (.int .i64 keep)) t { M with pl := true, af := n, ke := keep }) :=
        hide (Turned.of_cells (t' := { t with x := n, y := keep }) h ((((CellsAt.start h).set 7 (.bool true)).set 8 (.int .i64 n)).set 9 (.int .i64 keep)) rfl h.oa h.ob (.inr rfl) (.inr rfl) (fun _ => ⟨rfl, rfl⟩) hok)
      clear h hok hon
      go_enter Try.func24, Try.ntmps24
      go_wp2_with fail
      refine c1.mono ?_
      rintro e w' ⟨rfl, hw⟩
      obtain rfl := hw.symm
      clear c1 hw
      go_wp2_with fail
      go_ret
      exact ⟨rfl, HT.out⟩
end Go.Proofs.Ytfkchnjbbbhmjaa
