/- (*digest.running).add: bytes go on. -/
import Derived.Test.YtogmkcabndgllaaDoorTurn
import Derived.Test.YtogmkcabndgllaaDoorPut
import Derived.Laws.IdiomCopy
namespace Go.Proofs.YtogmkcabndgllaaDoor
open Go.RowKit
open Sha
/-- a slice of bytes whose elements are zs (nil, empty or over memory that lies there) -/
def RowAt (w : World) (a : Option Addr) (zs : List Int) : Prop :=
  zs.length ≤ maxLen ∧ (∀ z ∈ zs, 0 ≤ z ∧ z < 256) ∧ (zs = [] ∨ ∃ b off, a = some ⟨b, off, none⟩ ∧ b < w.heap.size ∧ w.rangeAt b off (v8 zs))
theorem RowAt.below {w w' : World} {a : Option Addr} {zs : List Int} (h : RowAt w a zs) (hb : Below w.heap.size w w') : RowAt w' a zs := by
  refine ⟨h.1, h.2.1, ?_⟩
  rcases h.2.2 with h | ⟨b, off, rfl, h1, h2⟩
  · exact Or.inl h
  · exact Or.inr ⟨b, off, rfl, Nat.lt_of_lt_of_le h1 hb.size, range_below h2 hb h1⟩
theorem RowAt.gb {w w' : World} {a : Option Addr} {zs : List Int} {R : Nat} (h : RowAt w a zs) (hb : w.grownBy w' (some R)) (hne : zs = [] ∨ ∀ x, a = some x → x.block ≠ R) : RowAt w' a zs := by
  refine ⟨h.1, h.2.1, ?_⟩
  rcases h.2.2 with h | ⟨b, off, rfl, h1, h2⟩
  · exact Or.inl h
  · rcases hne with hne | hne
    · exact Or.inl hne
    · exact Or.inr ⟨b, off, rfl, Nat.lt_of_lt_of_le h1 hb.size, range_gb h2 hb (hne _ rfl)⟩
/-- where x[n:] begins -/
def cutA (a : Option Addr) (cap n : Nat) : Option Addr := if cap = n then a else a.map (·.add n)
theorem cutA_ne {a : Option Addr} {R cap n : Nat} (h : ∀ x, a = some x → x.block ≠ R) : ∀ x, cutA a cap n = some x → x.block ≠ R := by
  intro x hx
  unfold cutA at hx
  split at hx
  · exact h x hx
  · cases a with
    | none => simp at hx
    | some y =>
      simp at hx
      subst hx
      have := h y rfl
      unfold Addr.add
      split <;> simpa using this
theorem RowAt.take {w : World} {a : Option Addr} {zs : List Int} (h : RowAt w a zs) (n : Nat) : RowAt w a (zs.take n) := by
  obtain ⟨h1, h2, h3⟩ := h
  refine ⟨by rw [List.length_take]; omega, fun z hz => h2 z (List.mem_of_mem_take hz), ?_⟩
  rcases h3 with rfl | ⟨b, off, rfl, hb, hc⟩
  · left; simp
  · right
    refine ⟨b, off, rfl, hb, ?_⟩
    have e : v8 zs = v8 (zs.take n) ++ v8 (zs.drop n) := by unfold v8; rw [← List.map_append, List.take_append_drop]
    rw [e] at hc
    exact range_left hc
theorem RowAt.drop {w : World} {a : Option Addr} {zs : List Int} (h : RowAt w a zs) (n cap : Nat) (hn : n ≤ zs.length) (hcap : zs.length ≤ cap) : RowAt w (cutA a cap n) (zs.drop n) := by
  obtain ⟨h1, h2, h3⟩ := h
  refine ⟨by rw [List.length_drop]; omega, fun z hz => h2 z (List.mem_of_mem_drop hz), ?_⟩
  by_cases he : n = zs.length
  · left; simp [he]
  · rcases h3 with rfl | ⟨b, off, rfl, hb, hc⟩
    · left; simp
    · right
      refine ⟨b, off + n, ?_, hb, ?_⟩
      · unfold cutA
        rw [if_neg (by omega), Option.map_some, Addr.add_mid]
      · have e : v8 zs = v8 (zs.take n) ++ v8 (zs.drop n) := by unfold v8; rw [← List.map_append, List.take_append_drop]
        rw [e] at hc
        have := range_right hc
        rwa [v8_length, List.length_take_of_le hn] at this
/-- a digest on its way: the words so far, the bytes that wait, how many came -/
structure Run (w : World) (R : Nat) (s : St) (wait : List Int) (n : Nat) : Prop where
  two : 2 ≤ R
  lt : R < w.heap.size
  thr : w.there R 0 74
  wds : w.rangeAt R 0 (v32 (list s))
  few : wait.length < 64
  ok : ∀ z ∈ wait, 0 ≤ z ∧ z < 256
  buf : ∃ junk : List Int, wait.length + junk.length = 64 ∧ w.rangeAt R 8 (v8 (wait ++ junk))
  held : w.cell? ⟨R, 72, none⟩ = some (.int .i64 (wait.length : Int))
  count : w.cell? ⟨R, 73, none⟩ = some (.int .u64 (n : Int))
  kls : w.rangeAt 1 0 (v32 kl)
namespace Sha
theorem feeds_append (p : St × List Int) (a b : List Int) : feeds p (a ++ b) = feeds (feeds p a) b := by simp [feeds, List.foldl_append]
theorem feeds_few (s : St) (wait : List Int) (zs : List Int) (h : wait.length + zs.length < 64) : feeds (s, wait) zs = (s, wait ++ zs) := by
  induction zs generalizing wait with
  | nil => simp [feeds]
  | cons z r ih =>
    simp only [List.length_cons] at h
    have e : feeds (s, wait) (z :: r) = feeds (feed (s, wait) z) r := rfl
    rw [e, feed, if_neg (by simp; omega), ih (wait ++ [z]) (by simp; omega)]
    simp
theorem feeds_full (s : St) (wait : List Int) (zs : List Int) (h : wait.length + zs.length = 64) (hz : wait.length < 64) : feeds (s, wait) zs = (block s (wait ++ zs), []) := by
  obtain ⟨ys, z, rfl⟩ : ∃ ys z, zs = ys ++ [z] := by
    have hne : zs ≠ [] := by intro e; rw [e] at h; simp at h; omega
    exact ⟨zs.dropLast, zs.getLast hne, (List.dropLast_concat_getLast hne).symm⟩
  simp only [List.length_append, List.length_cons, List.length_nil] at h
  rw [feeds_append, feeds_few s wait ys (by omega)]
  show feed (s, wait ++ ys) z = _
  rw [feed, if_pos (by simp; omega)]
  simp
end Sha
theorem Run.drewN {w : World} {R : Nat} {s : St} {wait : List Int} {n : Nat} (h : Run w R s wait n) (k : Nat) : Run (w.drewN k) R s wait n := by
  obtain ⟨h1, h2, h3, h4, h5, h6, ⟨junk, h7, h8⟩, h9, h10, h11⟩ := h
  exact ⟨h1, h2, there_drewN h3, range_drewN h4, h5, h6, ⟨junk, h7, range_drewN h8⟩, h9, h10, range_drewN h11⟩
def lenV : Value → Nat
  | .slice _ n _ => n
  | _ => 0
theorem Run.set73 {w : World} {R : Nat} {s : St} {wait : List Int} {n : Nat} (h : Run w R s wait n) (m : Nat) : Run (w.setCell ⟨R, 73, none⟩ (.int .u64 (m : Int))) R s wait m := by
  obtain ⟨h1, h2, h3, h4, h5, h6, ⟨junk, h7, h8⟩, h9, h10, h11⟩ := h
  refine ⟨h1, by simpa using h2, there_set h3 _ _, range_other h4 _ _ (fun _ => by right; show 0 + (v32 (list s)).length ≤ 73; simp [list]), h5, h6, ⟨junk, h7, range_other h8 _ _ (fun _ => by right; show 8 + (v8 (wait ++ junk)).length ≤ 73; simp; omega)⟩, ?_, World.cell?_setCell_same _ _ _ h10, range_other h11 _ _ (fun e => absurd e (by simp; omega))⟩
  rw [World.cell?_setCell_other _ _ _ _ (by simp)]; exact h9
/-- the bytes c have come behind those that wait; how many wait is told -/
structure Mid (w : World) (R : Nat) (s : St) (bs : List Int) (n : Nat) : Prop where
  two : 2 ≤ R
  lt : R < w.heap.size
  thr : w.there R 0 74
  wds : w.rangeAt R 0 (v32 (list s))
  len : bs.length ≤ 64
  ok : ∀ z ∈ bs, 0 ≤ z ∧ z < 256
  buf : ∃ junk : List Int, bs.length + junk.length = 64 ∧ w.rangeAt R 8 (v8 (bs ++ junk))
  held : w.cell? ⟨R, 72, none⟩ = some (.int .i64 (bs.length : Int))
  count : w.cell? ⟨R, 73, none⟩ = some (.int .u64 (n : Int))
  kls : w.rangeAt 1 0 (v32 kl)
theorem v8_append (a b : List Int) : v8 (a ++ b) = v8 a ++ v8 b := by simp [v8]
theorem Run.fill {w : World} {R : Nat} {s : St} {wait : List Int} {n : Nat} (h : Run w R s wait n) (c : List Int) (hc : wait.length + c.length ≤ 64) (hz : ∀ z ∈ c, 0 ≤ z ∧ z < 256) (wx : World)
    (hw : wx = (w.setCells R (8 + wait.length) (v8 c)).setCell ⟨R, 72, none⟩ (.int .i64 ((wait.length : Int) + (c.length : Int)))) : Mid wx R s (wait ++ c) n := by
  subst hw
  obtain ⟨h1, h2, h3, h4, h5, h6, ⟨junk, h7, h8⟩, h9, h10, h11⟩ := h
  have hl4 : (v32 (list s)).length = 8 := by simp [list]
  have hj : c.length ≤ junk.length := by omega
  obtain ⟨j1, j2, rfl, hj1⟩ : ∃ j1 j2, junk = j1 ++ j2 ∧ j1.length = c.length := ⟨junk.take c.length, junk.drop c.length, (List.take_append_drop _ _).symm, by rw [List.length_take]; omega⟩
  simp only [List.length_append] at h7
  have hrA : (w.setCells R (8 + wait.length) (v8 c)).rangeAt R (8 + wait.length) (v8 c) := World.rangeAt_setCells_same w R (8 + wait.length) (v8 c) (by
    rw [v8_length]
    have := there_part h3 (8 + wait.length) c.length (by omega)
    rwa [Nat.zero_add] at this)
  have hW : (w.setCells R (8 + wait.length) (v8 c)).rangeAt R 8 (v8 ((wait ++ c) ++ j2)) := by
    rw [v8_append, v8_append]
    rw [v8_append, v8_append, ← List.append_assoc] at h8
    have q1 := range_left (range_left h8)
    have q2 := range_right h8
    refine range_join (range_join (World.rangeAt_setCells_apart q1 _ _ _ (Or.inr (Or.inl (by simp)))) (by rw [v8_length]; exact hrA)) ?_
    have q3 := World.rangeAt_setCells_apart q2 R (8 + wait.length) (v8 c) (Or.inr (Or.inr (by simp [hj1]; omega)))
    simp only [List.length_append, v8_length, hj1] at q3 ⊢
    exact q3
  have hs : (w.setCells R (8 + wait.length) (v8 c)).heap.size = w.heap.size := size_sets _ _ _ _
  refine ⟨h1, by simpa [hs] using h2, there_set (World.there_setCells h3 _ _ _) _ _, ?_, by simp; omega, ?_, ⟨j2, by simp; omega, ?_⟩, ?_, ?_, ?_⟩
  · exact range_other (World.rangeAt_setCells_apart h4 _ _ _ (Or.inr (Or.inl (by rw [hl4]; omega)))) _ _ (fun _ => by right; show 0 + (v32 (list s)).length ≤ 72; omega)
  · intro z hz'
    rcases List.mem_append.1 hz' with q | q
    · exact h6 z q
    · exact hz z q
  · exact range_other hW _ _ (fun _ => by right; show 8 + (v8 (wait ++ c ++ j2)).length ≤ 72; simp; omega)
  · have : (w.setCells R (8 + wait.length) (v8 c)).cell? ⟨R, 72, none⟩ = w.cell? ⟨R, 72, none⟩ := World.cell?_setCells_out R _ _ _ _ (fun _ _ => by right; show 8 + wait.length + (v8 c).length ≤ 72; simp; omega)
    rw [World.cell?_setCell_same _ _ _ (this.trans h9)]
    simp
  · rw [World.cell?_setCell_other _ _ _ _ (by simp)]
    have : (w.setCells R (8 + wait.length) (v8 c)).cell? ⟨R, 73, none⟩ = w.cell? ⟨R, 73, none⟩ := World.cell?_setCells_out R _ _ _ _ (fun _ _ => by right; show 8 + wait.length + (v8 c).length ≤ 73; simp; omega)
    rw [this]; exact h10
  · exact range_other (World.rangeAt_setCells_apart h11 _ _ _ (Or.inl (by omega))) _ _ (fun e => absurd e (by simp; omega))
theorem Mid.run {w : World} {R : Nat} {s : St} {bs : List Int} {n : Nat} (h : Mid w R s bs n) (hl : bs.length < 64) : Run w R s bs n := ⟨h.two, h.lt, h.thr, h.wds, hl, h.ok, h.buf, h.held, h.count, h.kls⟩
theorem Mid.turned {w w1 : World} {R : Nat} {s r : St} {bs : List Int} {n : Nat} (h : Mid w R s bs n) (hw : w1.rangeAt R 0 (v32 (list r))) (hk : Keep R w w1) : Run (w1.setCell ⟨R, 72, none⟩ (.int .i64 0)) R r [] n := by
  obtain ⟨h1, h2, h3, h4, h5, h6, ⟨junk, h7, h8⟩, h9, h10, h11⟩ := h
  obtain ⟨k1, k2, k3⟩ := hk
  have hl4 : (v32 (list r)).length = 8 := by simp [list]
  have c72 := (k1 72 (by omega)).trans h9
  refine ⟨h1, by have := k3.size; simp; omega, ?_, range_other hw _ _ (fun _ => by right; show 0 + (v32 (list r)).length ≤ 72; omega), by simp, by simp, ⟨bs ++ junk, by simpa using h7, ?_⟩, World.cell?_setCell_same _ _ _ c72, ?_, ?_⟩
  · refine there_set (fun j hj => ?_) _ _
    obtain ⟨u1, u2⟩ := h3 j hj
    rw [Nat.zero_add] at u1 u2 ⊢
    refine ⟨?_, by rw [k2]; exact u2⟩
    by_cases q : j < 8
    · have := hw.isSome j (by omega)
      rwa [Nat.zero_add] at this
    · rw [k1 j (by omega)]; exact u1
  · refine range_other (fun j v hv => ?_) _ _ (fun _ => by right; show 8 + (v8 ([] ++ (bs ++ junk))).length ≤ 72; simp; omega)
    rw [k1 _ (by omega)]; exact h8 j v hv
  · rw [World.cell?_setCell_other _ _ _ _ (by simp), k1 73 (by omega)]; exact h10
  · exact range_other (range_gb h11 k3 (by omega)) _ _ (fun e => absurd e (by simp; omega))
theorem gb_sets (R : Nat) : ∀ (vs : List Value) (o : Nat) (w : World), w.grownBy (w.setCells R o vs) (some R)
  | [], _, w => gb_refl w _
  | v :: r, o, w => gb_trans (gb_set w R o v) (gb_sets R r (o + 1) _)
set_option maxRecDepth 20000 in
set_option maxHeartbeats 2000000 in
theorem add_any (R : Nat) (s : St) (wait : List Int) (n : Nat) (a : Option Addr) (cap : Nat) (zs : List Int) (w : World) (h : Run w R s wait n) (hr : RowAt w a zs) (hcap : zs.length ≤ cap) (hcm : cap ≤ maxLen) (hne : zs = [] ∨ ∀ x, a = some x → x.block ≠ R) (hn : n + zs.length < 18446744073709551616) :
   Calls Tryd.prog 42 #[.pointer (some ⟨R, 0, none⟩), .slice a zs.length cap] w fun e w' => e = .returned (.tuple #[]) ∧ Run w' R (feeds (s, wait) zs).1 (feeds (s, wait) zs).2 (n + zs.length) ∧ w.grownBy w' (some R) := by
  unfold maxLen at hcm
  have hc := h.count
  have hf := (h.thr 73 (by omega)).2
  rw [Nat.zero_add] at hf
  go_enter Tryd.func42, Tryd.ntmps42
  go_wp2_with fail
  have hR0 := h.set73 (n + zs.length)
  have hg0 := gb_set w R 73 (.int .u64 ((n + zs.length : Nat) : Int))
  have hr0 := hr.gb hg0 hne
  rw [show ((n : Int) + (zs.length : Int)) = ((n + zs.length : Nat) : Int) by omega]
  obtain ⟨N, hN⟩ : ∃ N, Hid (n + zs.length = N) := ⟨_, rfl⟩
  rw [hN.out] at hR0 hg0 hr0 ⊢
  go_name_world w0 hw0
  rw [hw0] at hR0 hg0 hr0
  clear hc hf hw0 h hr hn
  have HA : Hid (zs.length ≤ cap) := hcap
  go_loopw [1] (fun b wr => ∃ (pre rest : List Int) (s1 : St) (wt : List Int) (a' : Option Addr) (cap' : Nat), Hid (zs = pre ++ rest) ∧ Hid (feeds (s, wait) pre = (s1, wt)) ∧ b = .slice a' rest.length cap' ∧ rest.length ≤ cap' ∧ cap' ≤ 9223372036854775807 ∧ RowAt wr a' rest ∧ (rest = [] ∨ ∀ x, a' = some x → x.block ≠ R) ∧ Run wr R s1 wt N ∧ w.grownBy wr (some R)) (fun b _ => lenV b)
  case atStart => exact ⟨[], zs, s, wait, a, cap, rfl, rfl, rfl, hcap, by omega, hr0, hne, hR0, hg0⟩
  case round =>
    clear hR0 hg0 hr0 hne hcap hcm
    obtain ⟨pre, rest, s1, wt, a', cap', hzs, hfd, rfl, hrc, hcm, hr, hne, hRun, hg⟩ := hrel
    by_cases hlt : 0 < rest.length
    · have hlt' : (0 : Int) < rest.length := by omega
      obtain ⟨b, off, rfl, hbs, hrg⟩ : ∃ b off, a' = some ⟨b, off, none⟩ ∧ b < wr.heap.size ∧ wr.rangeAt b off (v8 rest) := by
        rcases hr.2.2 with rfl | q
        · simp at hlt
        · exact q
      have hne : ∀ x, some (⟨b, off, none⟩ : Addr) = some x → x.block ≠ R := hne.resolve_left (fun e => by rw [e] at hlt; simp at hlt)
      have few := hRun.few
      obtain ⟨m, hm⟩ : ∃ m, m = Nat.min rest.length (64 - wt.length) := ⟨_, rfl⟩
      have hm1 : m ≤ rest.length := by rw [hm]; exact Nat.min_le_left _ _
      have hm2 : m ≤ 64 - wt.length := by rw [hm]; exact Nat.min_le_right _ _
      have hm3 : 0 < m := by rw [hm]; exact Nat.lt_min.2 ⟨hlt, by omega⟩
      have hlm : (rest.take m).length = m := List.length_take_of_le hm1
      have hcp := run_copy_cells (P := Tryd.prog) wr.drew 80 80 3 5 R (8 + wt.length) (64 - wt.length) (64 - wt.length) ⟨b, off, none⟩ rest.length cap' (v8 (rest.take m)) Tryd.underlying80 isz8 (by rw [v8_length, hlm, hm]) (fun j v hv => by
          rw [Addr.add_mid, World.cell?_drew]
          have e : v8 rest = v8 (rest.take m) ++ v8 (rest.drop m) := by rw [← v8_append, List.take_append_drop]
          rw [e] at hrg
          exact range_left hrg j v hv)
        (fun j hj => by
          rw [v8_length, hlm] at hj
          have := (there_part hRun.thr (8 + wt.length) m (by omega) j hj).1
          rw [Nat.zero_add] at this
          rw [World.cell?_drew]; exact this)
        (fun j hj => by
          rw [v8_length, hlm] at hj
          have := (there_part hRun.thr (8 + wt.length) m (by omega) j hj).2
          rw [Nat.zero_add] at this
          rw [World.frozen?_drew]; exact this) (v8_one _)
      rw [v8_length, hlm] at hcp
      have hsl := slice_l (w := wr.drew) Tryd.underlying93 isz8 R 8 wt.length (wt.length : Int) rfl few
      have hhd := hRun.held
      have hf72 := (hRun.thr 72 (by omega)).2
      rw [Nat.zero_add] at hf72
      have HM : Hid (m = Nat.min rest.length (64 - wt.length)) := hm
      have c72 : (wr.drew.setCells R (8 + wt.length) (v8 (rest.take m))).cell? ⟨R, 72, none⟩ = some (.int .i64 (wt.length : Int)) := by
        rw [World.cell?_setCells_out R _ _ _ _ (fun _ _ => by right; show 8 + wt.length + (v8 (rest.take m)).length ≤ 72; rw [v8_length, hlm]; omega), World.cell?_drew]; exact hhd
      have f72 : (wr.drew.setCells R (8 + wt.length) (v8 (rest.take m))).frozen? ⟨R, 72, none⟩ = false := by
        rw [World.frozen?_setCells, World.frozen?_drew]; exact hf72
      have HX : Hid (∀ wx, wx = (wr.drew.setCells R (8 + wt.length) (v8 (rest.take m))).setCell ⟨R, 72, none⟩ (.int .i64 ((wt.length : Int) + (m : Int))) → Mid wx R s1 (wt ++ rest.take m) N) := fun wx hwx => (hRun.drewN 1).fill (rest.take m) (by rw [hlm]; omega) (fun z hz => hr.2.1 z (List.mem_of_mem_take hz)) wx (by rw [hlm]; exact hwx)
      have HG : Hid (∀ wx, wx = (wr.drew.setCells R (8 + wt.length) (v8 (rest.take m))).setCell ⟨R, 72, none⟩ (.int .i64 ((wt.length : Int) + (m : Int))) → wr.grownBy wx (some R)) := fun wx hwx => by
        rw [hwx]; exact gb_trans (gb_trans (gb_drew (gb_refl wr _)) (gb_sets R _ _ _)) (gb_set _ _ _ _)
      have HREL : Hid (∀ (wx : World) (s2 : St) (wt2 : List Int), Run wx R s2 wt2 N → feeds (s1, wt) (rest.take m) = (s2, wt2) → wr.grownBy wx (some R) → ∀ (a2 : Option Addr) (l2 c2 : Nat), a2 = cutA (some ⟨b, off, none⟩) cap' m → l2 = rest.length - m → c2 = cap' - m →
          (∃ (pre rest : List Int) (s1 : St) (wt : List Int) (a' : Option Addr) (cap' : Nat), Hid (zs = pre ++ rest) ∧ Hid (feeds (s, wait) pre = (s1, wt)) ∧ Value.slice a2 l2 c2 = .slice a' rest.length cap' ∧ rest.length ≤ cap' ∧ cap' ≤ 9223372036854775807 ∧ RowAt wx a' rest ∧ (rest = [] ∨ ∀ x, a' = some x → x.block ≠ R) ∧ Run wx R s1 wt N ∧ w.grownBy wx (some R))) := by
        intro wx s2 wt2 h1 h2 h3 a2 l2 c2 e1 e2 e3
        subst e1 e2 e3
        refine ⟨pre ++ rest.take m, rest.drop m, s2, wt2, cutA (some ⟨b, off, none⟩) cap' m, cap' - m, ?_, ?_, by simp, by simp; omega, by omega, ((hr.drop m cap' hm1 hrc).gb h3 (Or.inr (cutA_ne hne))), Or.inr (cutA_ne hne), h1, gb_trans hg h3⟩
        · show zs = _
          rw [List.append_assoc, List.take_append_drop]; exact hzs.out
        · show feeds _ _ = _
          rw [feeds_append, hfd.out]; exact h2
      have hzt : ∀ z ∈ rest.take m, 0 ≤ z ∧ z < 256 := fun z hz => hr.2.1 z (List.mem_of_mem_take hz)
      have HLM : Hid ((rest.take m).length = m) := hlm
      clear hm hlm hrg hRun hr hg hne hzs hfd HA hN
      by_cases hfull : wt.length + m = 64
      · have hf' : (wt.length : Int) + (m : Int) = 64 := by omega
        have hM := HX.out _ rfl
        have hG := HG.out _ rfl
        rw [hf'] at hM hG
        have hl64 : (wt ++ rest.take m).length = 64 := by rw [List.length_append, HLM.out]; exact hfull
        obtain ⟨junk, hj1, hj2⟩ := hM.buf
        have hj0 : junk = [] := List.eq_nil_of_length_eq_zero (by omega)
        subst hj0
        rw [List.append_nil] at hj2
        have ct := turn_any R s1 (wt ++ rest.take m) _ hl64 hM.ok hM.two hM.lt hM.wds hj2 (by have := there_part hM.thr 0 8 (by omega); simpa using this) hM.kls
        have HF : Hid (feeds (s1, wt) (rest.take m) = (block s1 (wt ++ rest.take m), [])) := feeds_full s1 wt (rest.take m) (by rw [HLM.out]; exact hfull) few
        have HM2 : Hid (Mid _ R s1 (wt ++ rest.take m) N) := hM
        clear hM HX HG hj1 hj2 hl64 hzt few
        go_wp2_with fail
        go_region
        clear hcp hsl
        go_wp2_with fail
        all_goals
          refine ct.mono ?_
          rintro e w2 ⟨rfl, hw2, hk2⟩
          have hRun2 := HM2.out.turned hw2 hk2
          have hg2 := gb_trans (gb_trans hG hk2.2.2) (gb_set w2 R 72 (.int .i64 0))
          have c72' := hk2.1 72 (by omega)
          rw [World.cell?_setCell_same _ _ _ c72] at c72'
          have f72' := hk2.2.1 72
          rw [World.frozen?_setCell, f72] at f72'
          clear ct
          go_wp2_with fail
          go_roundw
          case rel =>
            refine HREL.out _ _ _ hRun2 HF.out hg2 _ _ _ ?_ ?_ ?_
            · simp [cutA, Addr.add_mid, *]
            · rfl
            · omega
          case measure => simp [lenV]; omega
      · have hf' : ¬ (wt.length : Int) + (m : Int) = 64 := by omega
        have hM := HX.out _ rfl
        have hG := HG.out _ rfl
        have hRun2 := hM.run (by rw [List.length_append, HLM.out]; omega)
        have HF : Hid (feeds (s1, wt) (rest.take m) = (s1, wt ++ rest.take m)) := feeds_few s1 wt (rest.take m) (by rw [HLM.out]; omega)
        clear hM HX HG hzt few
        go_wp2_with fail
        go_region
        clear hcp hsl
        go_wp2_with fail
        go_roundw
        case rel =>
          refine HREL.out _ _ _ hRun2 HF.out hG _ _ _ ?_ ?_ ?_
          · simp [cutA, Addr.add_mid]
          · rfl
          · rfl
        case measure => simp [lenV]; omega
    · have hlt' : ¬ (0 : Int) < rest.length := by omega
      have h0 : rest = [] := List.eq_nil_of_length_eq_zero (by omega)
      subst h0
      have e := hzs.out
      rw [List.append_nil] at e
      have e2 := hfd.out
      rw [← e] at e2
      have HE : Hid (feeds (s, wait) zs = (s1, wt)) := e2
      have HN : Hid (n + zs.length = N) := hN.out
      clear e e2 hzs hfd hN
      go_wp2_with fail
      go_end0
      refine ⟨rfl, ?_, hg⟩
      rw [HE.out, HN.out]
      exact hRun
end Go.Proofs.YtogmkcabndgllaaDoor
