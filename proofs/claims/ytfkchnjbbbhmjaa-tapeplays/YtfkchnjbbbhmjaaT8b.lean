/- a tape beside what must stay -/
import Derived.Test.YtfkchnjbbbhmjaaT8
namespace Go.Proofs.Ytfkchnjbbbhmjaa
open Go.RowKit
/-- a tape at p; none of its blocks is one of A's -/
def Live (A : Nat → Prop) (w : World) (p : Nat) (M : Mt) : Prop := ∃ t : Tv, t.p = p ∧ TapeAt w t M ∧ ∀ b, t.own b → ¬ A b
theorem Live.ok {A : Nat → Prop} {w : World} {p : Nat} {M : Mt} (h : Live A w p M) : M.ok := by
  obtain ⟨t, -, h, -⟩ := h
  exact h.ok
theorem Live.lt {A : Nat → Prop} {w : World} {p : Nat} {M : Mt} (h : Live A w p M) : p < w.heap.size := by
  obtain ⟨t, rfl, h, -⟩ := h
  exact h.mono_x
theorem Live.below {A : Nat → Prop} {w w' : World} {p : Nat} {M : Mt} (h : Live A w p M) (hb : Below w.heap.size w w') : Live A w' p M := by
  obtain ⟨t, e, h, k⟩ := h
  exact ⟨t, e, h.below hb, k⟩
theorem Live.narrow {A A' : Nat → Prop} {w : World} {p : Nat} {M : Mt} (h : Live A w p M) (hA : ∀ b, A' b → A b) : Live A' w p M := by
  obtain ⟨t, e, h, k⟩ := h
  exact ⟨t, e, h, fun b q q1 => k b q (hA b q1)⟩
/-- what else was laid stays, too -/
def More (A : Nat → Prop) (w w1 : World) (b : Nat) : Prop := A b ∨ (w.heap.size ≤ b ∧ b < w1.heap.size)
theorem Live.widen {A : Nat → Prop} {w w1 : World} {p : Nat} {M : Mt} (h : Live A w p M) (hb : Below w.heap.size w w1) : Live (More A w w1) w1 p M := by
  obtain ⟨t, e, h, k⟩ := h
  refine ⟨t, e, h.below hb, fun b q q1 => ?_⟩
  rcases q1 with q1 | q1
  · exact k b q q1
  · have := h.own_lt q; omega
theorem More.lt {A : Nat → Prop} {w w1 : World} (hA : ∀ b, A b → b < w.heap.size) (hb : w.heap.size ≤ w1.heap.size) : ∀ b, More A w w1 b → b < w1.heap.size := by
  rintro b (q | q)
  · have := hA b q; omega
  · exact q.2
/-- an unlike tape's part -/
theorem Live.off {A F : Nat → Prop} {w w' : World} {p : Nat} {M : Mt} (h : Live A w p M) (ho : Off F w w') (hF : ∀ b, F b → A b) : Live A w' p M := by
  obtain ⟨t, e, h, k⟩ := h
  exact ⟨t, e, h.off ho (fun b q q1 => k b q (hF b q1)), k⟩
theorem Live.turn {A : Nat → Prop} {w w' : World} {t : Tv} {M' : Mt} (hk : ∀ b, t.own b → ¬ A b) (hA : ∀ b, A b → b < w.heap.size) (h : Turned w w' t M') : Live A w' t.p M' ∧ Off (fun b => ¬ A b) w w' := by
  obtain ⟨t', e1, e2, e3, e4⟩ := h
  refine ⟨⟨t', e1, e2, fun b q q1 => ?_⟩, e3.mono (fun b _ q => hk b q)⟩
  rcases e4 b q with q2 | q2
  · exact hk b q2 q1
  · have := hA b q1; omega
section
variable {A : Nat → Prop} {w : World} {p : Nat} {M : Mt}
theorem live_append (h : Live A w p M) (hA : ∀ b, A b → b < w.heap.size) (area : Int) (a : Option Addr) (cap : Nat) (zs : List Int) (hz : RowAt w a zs) (hbe : zs = [] ∨ ∀ x, a = some x → A x.block) :
    Calls Try.prog 14 #[.pointer (some ⟨p, 0, none⟩), .int .i64 area, .slice a zs.length cap] w fun e w' => e = .returned (.int .i64 (M.append area zs).1) ∧ Live A w' p (M.append area zs).2 ∧ Off (fun b => ¬ A b) w w' := by
  obtain ⟨t, rfl, h, k⟩ := h
  refine (tappend_any t M area a cap zs w h hz ?_).mono ?_
  · rcases hbe with q | q
    · exact .inl q
    · exact .inr (fun x hx q1 => k _ q1 (q x hx))
  · rintro e w' ⟨he, hw⟩
    exact ⟨he, Live.turn k hA hw⟩
theorem live_sync (h : Live A w p M) (hA : ∀ b, A b → b < w.heap.size) (area : Int) :
    Calls Try.prog 15 #[.pointer (some ⟨p, 0, none⟩), .int .i64 area] w fun e w' => e = .returned (.int .i64 (M.sync area).1) ∧ Live A w' p (M.sync area).2 ∧ Off (fun b => ¬ A b) w w' := by
  obtain ⟨t, rfl, h, k⟩ := h
  refine (tsync_any t M area w h).mono ?_
  rintro e w' ⟨he, hw⟩
  exact ⟨he, Live.turn k hA hw⟩
theorem live_clear (h : Live A w p M) (hA : ∀ b, A b → b < w.heap.size) (area : Int) :
    Calls Try.prog 16 #[.pointer (some ⟨p, 0, none⟩), .int .i64 area] w fun e w' => e = .returned (.int .i64 (M.empty area).1) ∧ Live A w' p (M.empty area).2 ∧ Off (fun b => ¬ A b) w w' := by
  obtain ⟨t, rfl, h, k⟩ := h
  refine (tclear_any t M area w h).mono ?_
  rintro e w' ⟨he, hw⟩
  exact ⟨he, Live.turn k hA hw⟩
theorem live_arm (h : Live A w p M) (hA : ∀ b, A b → b < w.heap.size) (n keep : Int) (hn : n ≤ 9223372036854775807) :
    Calls Try.prog 24 #[.pointer (some ⟨p, 0, none⟩), .int .i64 n, .int .i64 keep] w fun e w' => e = .returned (.int .i64 (M.arm n keep).1) ∧ Live A w' p (M.arm n keep).2 ∧ Off (fun b => ¬ A b) w w' := by
  obtain ⟨t, rfl, h, k⟩ := h
  refine (arm_any t M n keep w h hn).mono ?_
  rintro e w' ⟨he, hw⟩
  exact ⟨he, Live.turn k hA hw⟩
theorem live_fail (h : Live A w p M) (hA : ∀ b, A b → b < w.heap.size) (keep : Int) :
    Calls Try.prog 17 #[.pointer (some ⟨p, 0, none⟩), .int .i64 keep] w fun e w' => e = .returned (.int .i64 (M.fail keep).1) ∧ Live A w' p (M.fail keep).2 ∧ Off (fun b => ¬ A b) w w' := by
  obtain ⟨t, rfl, h, k⟩ := h
  refine (fail_any t M keep w h).mono ?_
  rintro e w' ⟨he, hw⟩
  exact ⟨he, Live.turn k hA hw⟩
theorem live_power (h : Live A w p M) (hA : ∀ b, A b → b < w.heap.size) :
    Calls Try.prog 18 #[.pointer (some ⟨p, 0, none⟩)] w fun e w' => e = .returned (.int .i64 0) ∧ Live A w' p { M with on := true } ∧ Off (fun b => ¬ A b) w w' := by
  obtain ⟨t, rfl, h, k⟩ := h
  refine (power_any t M w h).mono ?_
  rintro e w' ⟨he, hw⟩
  exact ⟨he, Live.turn k hA hw⟩
theorem Mt.read_ok {M : Mt} (h : M.ok) (area : Int) : (∀ z ∈ M.read area, 0 ≤ z ∧ z < 256) ∧ (M.read area).length ≤ 1073741824 := by
  have h1 := h.rm
  have h2 := h.rl
  unfold Mt.read
  split
  · cases decide (area = 1)
    · exact ⟨h.za, by simp only [Mt.get]; omega⟩
    · exact ⟨h.zb, by simp only [Mt.get]; omega⟩
  · simp
theorem live_read (h : Live A w p M) (area : Int) :
    Calls Try.prog 19 #[.pointer (some ⟨p, 0, none⟩), .int .i64 area] w fun e w' => ∃ a cap, e = .returned (.tuple #[.slice a (M.read area).length cap, .int .i64 (M.fault area)]) ∧ RowAt w' a (M.read area) ∧ Below w.heap.size w w' ∧ ∀ x, a = some x → w.heap.size ≤ x.block ∧ x.block < w'.heap.size := by
  obtain ⟨t, rfl, h, k⟩ := h
  refine (tread_any t M area w h).mono ?_
  rintro e w' ⟨v, he, hw, hb⟩
  have hr := Mt.read_ok h.ok area
  have hm : (M.read area).length ≤ maxLen := by have := hr.2; unfold maxLen; omega
  rcases own_range hw with ⟨rfl, h0, _⟩ | ⟨g, cap, rfl, hb', hg, hn, hcm, hrr⟩
  · have e0 : M.read area = [] := List.eq_nil_of_length_eq_zero h0
    rw [e0]
    exact ⟨none, 0, he, ⟨by unfold maxLen; simp, by simp, .inl rfl⟩, hb, fun x hx => by cases hx⟩
  · exact ⟨_, cap, he, ⟨hm, hr.1, .inr ⟨g, 0, rfl, hg, hrr⟩⟩, hb, fun x hx => by cases hx; exact ⟨hb', hg⟩⟩
theorem live_used (h : Live A w p M) : Calls Try.prog 22 #[.pointer (some ⟨p, 0, none⟩)] w fun e w' => e = .returned (.int .i64 ((M.a.length : Int) + M.b.length)) ∧ w' = w := by
  obtain ⟨t, rfl, h, k⟩ := h
  exact used_any t M w h
theorem live_sure (h : Live A w p M) (area : Int) : Calls Try.prog 21 #[.pointer (some ⟨p, 0, none⟩), .int .i64 area] w fun e w' => e = .returned (.int .i64 (if area = 0 then (M.sa : Int) else if area = 1 then (M.sb : Int) else 0)) ∧ w' = w := by
  obtain ⟨t, rfl, h, k⟩ := h
  exact sure_any t M area w h
theorem live_on (h : Live A w p M) : Calls Try.prog 25 #[.pointer (some ⟨p, 0, none⟩)] w fun e w' => e = .returned (.bool M.on) ∧ w' = w := by
  obtain ⟨t, rfl, h, k⟩ := h
  exact on_any t M w h
theorem live_counts (h : Live A w p M) : Calls Try.prog 23 #[.pointer (some ⟨p, 0, none⟩)] w fun e w' => e = .returned (.tuple #[.int .i64 M.ops, .int .i64 M.fa]) ∧ Below w.heap.size w w' := by
  obtain ⟨t, rfl, h, k⟩ := h
  exact counts_any t M w h
end
theorem live_new (room : Int) (w : World) (h0 : 0 ≤ room) (h1 : room ≤ 1073741824) :
    Calls Try.prog 8 #[.int .i64 room] w fun e w' => e = .returned (.pointer (some ⟨w.heap.size, 0, none⟩)) ∧ Below w.heap.size w w' ∧ Live (fun b => b < w.heap.size) w' w.heap.size (Mt.new room) := by
  refine (new_yes room w h0 h1).mono ?_
  rintro e w' ⟨he, hb, ht⟩
  refine ⟨he, hb, newTv w, rfl, ht, ?_⟩
  rintro b (q | q | q) h
  · rw [q] at h; simp [newTv] at h
  · simp [newTv, Value.ownBlock] at q
  · simp [newTv, Value.ownBlock] at q
end Go.Proofs.Ytfkchnjbbbhmjaa
