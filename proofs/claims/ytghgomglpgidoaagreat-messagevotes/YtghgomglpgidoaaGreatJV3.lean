/- frames: all but some blocks stays; message's writer: room, raw; message's writer: raw; message's writer: numbers; messages: their cells; message's writer: votes; message's writer: votes, marks, states of a node; messages that are built out of parts; A region that draws its order where two operations are ready at once: both ways.; message.bare at votes, marks and statuses -/
import Derived.Test.YtghgomglpgidoaaGreatJV2
import Derived.Test.YtghgomglpgidoaaGreatJV1
import Derived.Maps.OwnSet
namespace Go.Proofs.YtghgomglpgidoaaGreat
open Go Go.RowKit
def Off (F : Nat → Prop) (w w' : World) : Prop := Below 0 w w' ∧ ∀ b, b < w.heap.size → ¬ F b → w'.heap[b]? = w.heap[b]?
theorem Off.refl (F : Nat → Prop) (w : World) : Off F w w := ⟨Below.refl _ _, fun _ _ _ => rfl⟩
theorem Off.size {F : Nat → Prop} {w w' : World} (h : Off F w w') : w.heap.size ≤ w'.heap.size := h.1.size
theorem Off.trans {F G : Nat → Prop} {w w1 w2 : World} (h : Off F w w1) (k : Off G w1 w2) (hG : ∀ b, b < w.heap.size → G b → F b) : Off F w w2 :=
  ⟨h.1.trans k.1, fun b hb hf => (k.2 b (Nat.lt_of_lt_of_le hb h.size) (fun hg => hf (hG b hb hg))).trans (h.2 b hb hf)⟩
theorem Off.mono {F G : Nat → Prop} {w w1 : World} (h : Off F w w1) (hG : ∀ b, b < w.heap.size → F b → G b) : Off G w w1 :=
  ⟨h.1, fun b hb hg => h.2 b hb (fun hf => hg (hG b hb hf))⟩
theorem Off.of_below {F : Nat → Prop} {w w' : World} (h : Below w.heap.size w w') : Off F w w' := ⟨h.mono (Nat.zero_le _), fun b hb _ => h.block b hb⟩
theorem Off.of_grown {F : Nat → Prop} {w w' : World} {row : Option Nat} (h : w.grownBy w' row) (hF : ∀ k, row = some k → F k) : Off F w w' :=
  ⟨⟨h.os, h.tape, h.output, h.size, fun k hk => absurd hk (Nat.not_lt_zero k)⟩, fun b hb hf => h.block b hb (fun e => hf (hF b e.symm))⟩
theorem Off.of_setCell {F : Nat → Prop} (w : World) (p : Addr) (u : Value) (hF : F p.block) : Off F w (w.setCell p u) :=
  ⟨⟨rfl, rfl, rfl, by simp [World.setCell], fun k hk => absurd hk (Nat.not_lt_zero k)⟩, fun b _ hf => Below.heap_setCell _ _ _ _ (fun e => hf (e ▸ hF))⟩
theorem Off.below {F : Nat → Prop} {w w' : World} (h : Off F w w') {n : Nat} (hn : n ≤ w.heap.size) (hF : ∀ b, b < n → ¬ F b) : Below n w w' :=
  ⟨h.1.os, h.1.tape, h.1.output, h.1.size, fun k hk => h.2 k (Nat.lt_of_lt_of_le hk hn) (hF k hk)⟩
theorem Off.drew {F : Nat → Prop} {w w' : World} (h : Off F w w') : Off F w w'.drew := ⟨h.1.drew, fun b hb hf => h.2 b hb hf⟩
theorem Off.below_r {F : Nat → Prop} {w w1 w2 : World} (h : Off F w w1) (k : Below w1.heap.size w1 w2) : Off F w w2 :=
  h.trans (Off.of_below (F := fun _ => False) k) (fun _ _ hx => hx.elim)
/-- what a block holds stays -/
theorem range_at {w w' : World} {b o : Nat} {cs : List Value} (h : w.rangeAt b o cs) (hb : w'.heap[b]? = w.heap[b]?) : w'.rangeAt b o cs := fun j v hv => by
  have := h j v hv
  rw [← this]
  simp [World.cell?, hb]
theorem owns_at {w w' : World} {base : Nat} {e : TypeId} {size : Nat} {v : Value} {n : Nat} {xs : List Value} (h : w.ownsRow base e size v n xs) (hb : ∀ g, v.ownBlock = some g → w'.heap[g]? = w.heap[g]?) : w'.ownsRow base e size v n xs := by
  refine ⟨h.1, ?_⟩
  rcases h.2 with h1 | ⟨g, cap, cur, rfl, h2, h3, h4⟩
  · exact .inl h1
  · exact .inr ⟨g, cap, cur, rfl, h2, by rw [hb g rfl]; exact h3, h4⟩
theorem owns_lt {w : World} {base : Nat} {e : TypeId} {size : Nat} {v : Value} {n : Nat} {xs : List Value} (h : w.ownsRow base e size v n xs) {g : Nat} (hg : v.ownBlock = some g) : g < w.heap.size := by
  rcases h.2 with ⟨rfl, _⟩ | ⟨g', cap, cur, rfl, h2, h3, h4⟩
  · simp [Value.ownBlock] at hg
  · simp [Value.ownBlock] at hg
    subst hg
    exact (Array.getElem?_eq_some_iff.1 h3).1
end Go.Proofs.YtghgomglpgidoaaGreat
namespace Go.Proofs.YtghgomglpgidoaaGreat
open Go.RowKit
open Sha Tal
/-- a writer in block X: its row and whether there would be more -/
structure WrAt (w : World) (X : Nat) (v : Value) (zs : List Int) (lg : Bool) : Prop where
  lt : X < w.heap.size
  c0 : w.cell? ⟨X, 0, none⟩ = some v
  c1 : w.cell? ⟨X, 1, none⟩ = some (.bool lg)
  th : w.there X 0 2
  me : Mine w (X + 1) v zs
theorem WrAt.f0 {w : World} {X : Nat} {v : Value} {zs : List Int} {lg : Bool} (h : WrAt w X v zs lg) : w.frozen? ⟨X, 0, none⟩ = false := by
  have := (h.th 0 (by omega)).2
  simpa using this
theorem WrAt.f1 {w : World} {X : Nat} {v : Value} {zs : List Int} {lg : Bool} (h : WrAt w X v zs lg) : w.frozen? ⟨X, 1, none⟩ = false := by
  have := (h.th 1 (by omega)).2
  simpa using this
theorem Mine.far {w w' : World} {B : Nat} {v : Value} {zs : List Int} (h : Mine w B v zs) (hb : ∀ g, v.ownBlock = some g → w'.heap[g]? = w.heap[g]?) : Mine w' B v zs := ⟨owns_at h.1 hb, h.2⟩
theorem Mine.from {w : World} {B : Nat} {v : Value} {zs : List Int} (h : Mine w B v zs) (g : Nat) (hg : v.ownBlock = some g) : B ≤ g ∧ g < w.heap.size := by
  rcases h.1.2 with ⟨rfl, _⟩ | ⟨g', cap, cur, rfl, h2, h3, h4⟩
  · simp [Value.ownBlock] at hg
  · simp [Value.ownBlock] at hg
    subst hg
    exact ⟨h2, (Array.getElem?_eq_some_iff.1 h3).1⟩
/-- the flag is set -/
theorem WrAt.flag {w : World} {X : Nat} {v : Value} {zs : List Int} {lg : Bool} (h : WrAt w X v zs lg) (b : Bool) : WrAt (w.setCell ⟨X, 1, none⟩ (.bool b)) X v zs b where
  lt := by simpa [World.setCell] using h.lt
  c0 := by exact (World.cell?_setCell_other (w := w) (h := (by simp)) ..).trans h.c0
  c1 := World.cell?_setCell_same (w := w) (h := h.c1) ..
  th := there_set h.th _ _
  me := h.me.far (fun g hg => Below.heap_setCell _ _ _ _ (by have := (h.me.from g hg).1; show g ≠ X; omega))
def fullB (lg : Bool) (n : Int) (zs : List Int) : Bool := lg || decide (4194304 - (zs.length : Int) < n)
set_option maxRecDepth 100000 in
set_option maxHeartbeats 2000000 in
theorem room13_any (X : Nat) (v : Value) (zs : List Int) (lg : Bool) (n : Int) (w : World) (h : WrAt w X v zs lg) (hm : zs.length ≤ 4194304) :
    Calls Tryz.prog 110 #[.pointer (some ⟨X, 0, none⟩), .int .i64 n] w fun e w' => e = .returned (.bool (!(fullB lg n zs))) ∧ w' = w.setCell ⟨X, 1, none⟩ (.bool (fullB lg n zs)) := by
  have fz := h.f1
  obtain ⟨hX, c0, c1, _, hM⟩ := h
  obtain ⟨a, cap, rfl, hc, hc', hR⟩ := hM.rowAt (by unfold maxLen; omega)
  clear hM hR
  cases lg
  · have E : fullB false n zs = decide (4194304 - (zs.length : Int) < n) := by unfold fullB; rw [Bool.false_or]
    rw [E]; clear E
    go_enter Tryz.func110, Tryz.ntmps110
    go_wp2
    go_ret
    exact ⟨rfl, rfl⟩
  · have E : fullB true n zs = true := by unfold fullB; rw [Bool.true_or]
    rw [E]; clear E
    go_enter Tryz.func110, Tryz.ntmps110
    go_wp2
    go_ret
    exact ⟨rfl, rfl⟩
/-- what a writer's call may touch: the writer and its row -/
def WrF (X : Nat) (v : Value) : Nat → Prop := fun b => b = X ∨ v.ownBlock = some b
/-- where the row goes on -/
def RowOn (w : World) (v v' : Value) : Prop := ∀ g, v'.ownBlock = some g → v.ownBlock = some g ∨ w.heap.size ≤ g
end Go.Proofs.YtghgomglpgidoaaGreat
namespace Go.Proofs.YtghgomglpgidoaaGreat
open Go.RowKit
open Sha Tal
theorem RowAt.other {w : World} {a : Option Addr} {zs : List Int} {p : Addr} {u : Value} (h : RowAt w a zs) (hne : zs = [] ∨ ∀ x, a = some x → x.block ≠ p.block) : RowAt (w.setCell p u) a zs := by
  refine ⟨h.1, h.2.1, ?_⟩
  rcases h.2.2 with h0 | ⟨b, off, rfl, h1, h2⟩
  · exact .inl h0
  · rcases hne with h0 | hne
    · exact .inl h0
    · exact .inr ⟨b, off, rfl, by simpa [World.setCell] using h1, range_at h2 (Below.heap_setCell _ _ _ _ (hne _ rfl))⟩
/-- what the writer has behind a piece -/
def wrL (zs bs : List Int) (b : Bool) : List Int := if b then zs else zs ++ bs
theorem wrL_t (zs bs : List Int) : wrL zs bs true = zs := rfl
theorem wrL_f (zs bs : List Int) : wrL zs bs false = zs ++ bs := rfl
theorem wrL_len {zs bs : List Int} {lg : Bool} (h : zs.length ≤ 4194304) : (wrL zs bs (fullB lg bs.length zs)).length ≤ 4194304 := by
  cases hf : fullB lg bs.length zs
  · unfold fullB at hf
    rw [Bool.or_eq_false_iff] at hf
    have := of_decide_eq_false hf.2
    rw [wrL_f, List.length_append]
    omega
  · exact h
/-- the row is laid anew -/
theorem WrAt.row {w w' : World} {X : Nat} {v v' : Value} {zs zs' : List Int} {lg : Bool} (h : WrAt w X v zs lg) (hg : w.grownBy w' v.ownBlock) (hn : Mine w' (X + 1) v' zs') : WrAt (w'.setCell ⟨X, 0, none⟩ v') X v' zs' lg := by
  have hX : w'.heap[X]? = w.heap[X]? := hg.block X h.lt (fun e => by have := (h.me.from X e.symm).1; omega)
  have cc : ∀ i, w'.cell? ⟨X, i, none⟩ = w.cell? ⟨X, i, none⟩ := fun i => by simp [World.cell?, hX]
  refine ⟨by have := h.lt; have := hg.size; simp [World.setCell]; omega, World.cell?_setCell_same (h := (cc 0).trans h.c0) .., ?_, ?_, ?_⟩
  · exact (World.cell?_setCell_other (w := w') (h := (by simp)) ..).trans ((cc 1).trans h.c1)
  · exact there_set (fun j hj => by
      have := h.th j hj
      rw [Nat.zero_add] at this ⊢
      exact ⟨by rw [cc]; exact this.1, (World.frozen?_of_block hX).trans this.2⟩) _ _
  · exact hn.far (fun g hg => Below.heap_setCell _ _ _ _ (by have := (hn.from g hg).1; show g ≠ X; omega))
set_option maxRecDepth 100000 in
set_option maxHeartbeats 2000000 in
theorem raw13_any (X : Nat) (v : Value) (zs : List Int) (lg : Bool) (a : Option Addr) (cap : Nat) (bs : List Int) (w : World) (h : WrAt w X v zs lg) (hr : RowAt w a bs) (hne : bs = [] ∨ ∀ x, a = some x → x.block ≠ X) (hm : zs.length ≤ 4194304) :
    Calls Tryz.prog 58 #[.pointer (some ⟨X, 0, none⟩), .slice a bs.length cap] w fun e w' => ∃ v', e = .returned (.tuple #[]) ∧ WrAt w' X v' (wrL zs bs (fullB lg bs.length zs)) (fullB lg bs.length zs) ∧ Off (WrF X v) w w' ∧ RowOn w v v' := by
  obtain ⟨i0, hi, hz0, hz1, hz2⟩ := info_parts info8
  have cr := room13_any X v zs lg bs.length w h hm
  have h1 := h.flag (fullB lg bs.length zs)
  have hO1 : Off (WrF X v) w (w.setCell ⟨X, 1, none⟩ (.bool (fullB lg bs.length zs))) := Off.of_setCell w _ _ (.inl rfl)
  have hr1 : RowAt (w.setCell ⟨X, 1, none⟩ (.bool (fullB lg bs.length zs))) a bs := hr.other hne
  have hsz : (w.setCell ⟨X, 1, none⟩ (.bool (fullB lg bs.length zs))).heap.size = w.heap.size := by simp [World.setCell]
  have hfl : fullB lg bs.length zs = false → zs.length + bs.length ≤ 4194304 := fun hf => by
    unfold fullB at hf
    rw [Bool.or_eq_false_iff] at hf
    have := of_decide_eq_false hf.2
    omega
  cases hf : fullB lg bs.length zs
  · rw [hf] at cr h1 hO1 hr1 hsz
    simp only [Bool.not_false] at cr
    have hl := hfl hf
    clear hf hfl
    rw [wrL_f]
    have f0 := h1.f0
    have c0 := h1.c0
    obtain ⟨w1, hw1⟩ : ∃ w1, w.setCell ⟨X, 1, none⟩ (.bool false) = w1 := ⟨_, rfl⟩
    rw [hw1] at cr h1 hO1 hr1 hsz f0 c0
    go_enter Tryz.func58, Tryz.ntmps58
    go_wp2_with fail
    refine cr.mono ?_
    rintro e1 w1' ⟨rfl, rfl⟩
    go_wp2_with (at_builtin; refine wpList_append_own_src2 _ rfl _ _ 62 62 rfl (X + 1) 5 i0 (.int .u8 0) 1 1 Tryz.underlying62 hi hz0 hz1 hz2 rfl _ zs.length _ rfl h1.me.1 _ bs.length _ rfl (hr1.src cap) ?c1 ?c2 ?c3 ?_)
    case c1 => unfold maxLen; omega
    case c2 => omega
    case c3 => have := h1.lt; omega
    intro v2 w2 hown hgr hon
    have hM : Mine w2 (X + 1) v2 (zs ++ bs) := Mine.mk' _ hown (by simp) (by simp [v8]) (fun z hz => by
      rcases List.mem_append.1 hz with hz | hz
      · exact h1.me.2 z hz
      · exact hr.2.1 z hz)
    have h2 := h1.row hgr hM
    have hX2 : w2.heap[X]? = w1'.heap[X]? := hgr.block X h1.lt (fun e => by have := (h1.me.from X e.symm).1; omega)
    have c2 : w2.cell? ⟨X, 0, none⟩ = some v := by rw [← c0]; simp [World.cell?, hX2]
    have f2 : w2.frozen? ⟨X, 0, none⟩ = false := (World.frozen?_of_block hX2).trans f0
    have hO2 : Off (WrF X v) w (w2.setCell ⟨X, 0, none⟩ v2) := hO1.trans ((Off.of_grown (F := WrF X v) hgr (fun k hk => .inr hk)).trans (Off.of_setCell (F := WrF X v) w2 _ _ (.inl rfl)) (fun _ _ q => q)) (fun _ _ q => q)
    have hon' : RowOn w v v2 := fun g hg => (hon g hg).imp id (fun e => by omega)
    obtain ⟨a2, cap2, rfl, _, _, _⟩ := hM.rowAt (by rw [List.length_append]; unfold maxLen; omega)
    rw [List.length_append] at h2 hO2 hon'
    clear hown hgr hon hM c0 f0 cr h h1
    go_wp2_with fail
    go_end0
    exact ⟨_, rfl, h2, hO2, hon'⟩
  · rw [hf] at cr h1 hO1 hr1 hsz
    simp only [Bool.not_true] at cr
    clear hf hfl
    rw [wrL_t]
    obtain ⟨w1, hw1⟩ : ∃ w1, w.setCell ⟨X, 1, none⟩ (.bool true) = w1 := ⟨_, rfl⟩
    rw [hw1] at cr h1 hO1
    go_enter Tryz.func58, Tryz.ntmps58
    go_wp2_with fail
    refine cr.mono ?_
    rintro e1 w1' ⟨rfl, rfl⟩
    go_wp2_with fail
    go_end0
    exact ⟨v, rfl, h1, hO1, fun g hg => .inl hg⟩
end Go.Proofs.YtghgomglpgidoaaGreat
namespace Go.Proofs.YtghgomglpgidoaaGreat
open Go.RowKit
open Sha Tal
theorem wr_trans {X : Nat} {v v1 v2 : Value} {w w1 w2 : World} (h : Off (WrF X v) w w1) (r : RowOn w v v1) (h' : Off (WrF X v1) w1 w2) (r' : RowOn w1 v1 v2) : Off (WrF X v) w w2 ∧ RowOn w v v2 := by
  refine ⟨h.trans h' (fun b hb hf => ?_), fun g hg => ?_⟩
  · rcases hf with hf | hf
    · exact .inl hf
    · rcases r b hf with e | e
      · exact .inr e
      · omega
  · rcases r' g hg with e | e
    · exact r g e
    · exact .inr (Nat.le_trans h.size e)
theorem WrAt.below {w w' : World} {X : Nat} {v : Value} {zs : List Int} {lg : Bool} (h : WrAt w X v zs lg) (hb : Below w.heap.size w w') : WrAt w' X v zs lg :=
  ⟨Nat.lt_of_lt_of_le h.lt hb.size, (hb.cell (p := ⟨X, 0, none⟩) h.lt).trans h.c0, (hb.cell (p := ⟨X, 1, none⟩) h.lt).trans h.c1, there_below h.th hb h.lt, h.me.below hb⟩
theorem Mine.fresh {w : World} {B : Nat} {a : Option Addr} {n cap : Nat} {zs : List Int} (h : Mine w B (.slice a n cap) zs) (x : Addr) (hx : a = some x) : B ≤ x.block := by
  rcases own_range h.1 with ⟨e, _⟩ | ⟨g, cap', e, hB, _⟩
  · injection e with e1; rw [e1] at hx; cases hx
  · injection e with e1; rw [e1] at hx; cases hx; exact hB
/-- a piece is written -/
def wrS (s : List Int × Bool) (bs : List Int) : List Int × Bool := (wrL s.1 bs (fullB s.2 bs.length s.1), fullB s.2 bs.length s.1)
def wrN (s : List Int × Bool) (ns : List Int) : List Int × Bool := ns.foldl (fun s n => wrS s (putL n)) s
theorem wr_len {s : List Int × Bool} (bs : List Int) (h : s.1.length ≤ 4194304) : (wrS s bs).1.length ≤ 4194304 := wrL_len h
theorem wrN_len (ns : List Int) : ∀ s : List Int × Bool, s.1.length ≤ 4194304 → (wrN s ns).1.length ≤ 4194304 := by
  induction ns with
  | nil => intro s h; exact h
  | cons n r ih => intro s h; exact ih _ (wr_len _ h)
theorem wrN_take (ns : List Int) (s : List Int × Bool) (k : Nat) (hk : k < ns.length) : wrN s (ns.take (k + 1)) = wrS (wrN s (ns.take k)) (putL (ns.getD k 0)) := by
  unfold wrN
  have : ns.take (k + 1) = ns.take k ++ [ns.getD k 0] := by
    rw [List.take_add_one]; simp [List.getElem?_eq_getElem hk, List.getD_eq_getElem?_getD]
  rw [this, List.foldl_append]; rfl
/-- numbers in a row -/
def NumsAt (w : World) (a : Option Addr) (ns : List Int) : Prop :=
  ns.length ≤ maxLen ∧ (∀ n ∈ ns, n ≤ 9223372036854775807) ∧ (ns = [] ∨ ∃ b off, a = some ⟨b, off, none⟩ ∧ b < w.heap.size ∧ w.rangeAt b off (ns.map (Value.int .i64)))
set_option maxRecDepth 100000 in
set_option maxHeartbeats 2000000 in
theorem nums13_any (X : Nat) (v : Value) (s : List Int × Bool) (b off cap : Nat) (ns : List Int) (w : World) (h : WrAt w X v s.1 s.2) (hl : ns.length ≤ 1000) (hn : ∀ n ∈ ns, n ≤ 9223372036854775807) (hb : b < w.heap.size) (hr : w.rangeAt b off (ns.map (Value.int .i64))) (hne : ¬ WrF X v b) (hm : s.1.length ≤ 4194304) :
    Calls Tryz.prog 52 #[.pointer (some ⟨X, 0, none⟩), .slice (some ⟨b, off, none⟩) ns.length cap] w fun e w' => ∃ v', e = .returned (.tuple #[]) ∧ WrAt w' X v' (wrN s ns).1 (wrN s ns).2 ∧ Off (WrF X v) w w' ∧ RowOn w v v' := by
  go_enter Tryz.func52, Tryz.ntmps52
  go_wp2_with fail
  go_loopw [8] (fun iv wr' => ∃ k : Nat, k ≤ ns.length ∧ iv = .int .i64 (k : Int) ∧ Hid (∃ v', WrAt wr' X v' (wrN s (ns.take k)).1 (wrN s (ns.take k)).2 ∧ Off (WrF X v) w wr' ∧ RowOn w v v')) (fun iv _ => ns.length - (intOf iv).toNat)
  case atStart => exact ⟨0, by omega, rfl, hide ⟨v, h, Off.refl _ _, fun g hg => .inl hg⟩⟩
  case round =>
    obtain ⟨k, hk, rfl, HK⟩ := hrel
    by_cases hlt : k < ns.length
    · have k1 : (k : Int) < ns.length := by omega
      obtain ⟨v1, hW, hO, hRo⟩ := HK.out
      clear HK
      have hrow : wr.heap[b]? = w.heap[b]? := hO.2 b hb hne
      have ck : wr.cell? ⟨b, off + k, none⟩ = some (.int .i64 (ns.getD k 0)) := by
        have := range_at hr hrow k (.int .i64 (ns.getD k 0)) (by simp [List.getElem?_eq_getElem hlt])
        exact this
      have hnk : ns.getD k 0 ≤ 9223372036854775807 := hn _ (by simp [List.getElem?_eq_getElem hlt])
      have HS := hide (wrN_take ns s k hlt)
      have hbl := putL_length (ns.getD k 0) (by omega)
      have hlen := wrN_len (ns.take k) s hm
      have cp := put_any none 0 [] (ns.getD k 0) wr (nil_row wr) (by simp) hnk
      rw [List.nil_append] at cp
      obtain ⟨n, hnn⟩ : ∃ n, Hid (ns.getD k 0 = n) := ⟨_, hide rfl⟩
      rw [hnn.out] at ck cp HS hnk hbl
      obtain ⟨bs, hbs⟩ : ∃ bs, Hid (putL n = bs) := ⟨_, hide rfl⟩
      rw [hbs.out] at cp HS hbl
      obtain ⟨t, ht⟩ : ∃ t, Hid (wrN s (ns.take k) = t) := ⟨_, hide rfl⟩
      rw [ht.out] at hW hlen HS
      clear hnn hbs ht hr hrow
      go_wp2_with fail
      refine cp.mono ?_
      rintro e1 w1 ⟨v2, rfl, hM, hB⟩
      obtain ⟨a2, cap2, rfl, _, _, hrw⟩ := hM.rowAt (by unfold maxLen; omega)
      have hMf := hM.fresh
      have hW1 := hW.below hB
      have cr := raw13_any X v1 t.1 t.2 a2 cap2 bs w1 hW1 hrw (.inr (fun x hx => by have := hMf x hx; have := hW.lt; omega)) hlen
      have hO1 := hO.below_r hB
      clear hM hMf hW1 hW hB hO cp hrw ck
      go_wp2_with fail
      refine cr.mono ?_
      rintro e2 w2 ⟨v3, rfl, hW2, hO2, hR2⟩
      have T := wr_trans hO1 hRo hO2 hR2
      clear cr hO2 hR2 hO1 hRo
      have T' := hide (And.intro hW2 T)
      clear hW2 T
      go_wp2
      go_roundw
      case rel =>
        refine ⟨k + 1, by omega, by go_num, hide ⟨v3, ?_, T'.out.2.1, T'.out.2.2⟩⟩
        rw [HS.out]
        exact T'.out.1
      case measure => simp [intOf]; omega
    · obtain rfl : k = ns.length := by omega
      go_wp2
      go_end0
      obtain ⟨v1, hW, hO, hRo⟩ := HK.out
      rw [List.take_length] at hW
      exact ⟨v1, rfl, hW, hO, hRo⟩
end Go.Proofs.YtghgomglpgidoaaGreat
namespace Go.Proofs.YtghgomglpgidoaaGreat
open Go.RowKit
open Sha Tal
structure Vt.ok (x : Vt) : Prop where
  k : x.k ≤ 9223372036854775807
  e : x.e ≤ 9223372036854775807
  v : x.v ≤ 9223372036854775807
  s : x.s ≤ 9223372036854775807
  dl : x.d.length = 32
  db : ∀ z ∈ x.d, 0 ≤ z ∧ z < 256
theorem Vt.ok.len {x : Vt} (h : x.ok) : x.cells.length = 36 := by
  have := h.dl
  simp [Vt.cells, v8]
  omega
theorem Vt.one (x : Vt) : ∀ v ∈ x.cells, v.oneCell' = true := by
  intro v hv
  simp only [Vt.cells, List.mem_cons] at hv
  rcases hv with rfl | rfl | rfl | rfl | hv
  · rfl
  · rfl
  · rfl
  · rfl
  · exact v8_one x.d v hv
/-- a vote with nothing in it -/
def Vt.zero : Vt := ⟨0, 0, 0, 0, List.replicate 32 0⟩
theorem Vt.zero_ok : Vt.zero.ok := ⟨by decide, by decide, by decide, by decide, by decide, by decide⟩
/-- a message: kind, epoch, leader, view, slot, batch, vote, change, news, digest, cert, state, signs; lists as they are handed about -/
structure Ms where
  k : Int
  e : Int
  l : Int
  v : Int
  s : Int
  q : Bool
  rs : Value
  vt : Vt
  ce : Int
  cl : Int
  cv : Int
  he : Value
  ne : Value
  d : List Int
  ct : Vt
  cs : Value
  st : ByteArray
  sg : Value
def Ms.cells (m : Ms) : List Value := [.int .i64 m.k, .int .i64 m.e, .int .i64 m.l, .int .i64 m.v, .int .i64 m.s, .bool m.q, m.rs] ++ (m.vt.cells ++ ([.int .i64 m.ce, .int .i64 m.cl, .int .i64 m.cv, m.he, m.ne] ++ (v8 m.d ++ (m.ct.cells ++ [m.cs, .string m.st, m.sg]))))
structure Ms.ok (m : Ms) : Prop where
  vt : m.vt.ok
  ct : m.ct.ok
  dl : m.d.length = 32
  db : ∀ z ∈ m.d, 0 ≤ z ∧ z < 256
  rs : m.rs.oneCell' = true
  he : m.he.oneCell' = true
  ne : m.ne.oneCell' = true
  cs : m.cs.oneCell' = true
  sg : m.sg.oneCell' = true
theorem Ms.ok.len {m : Ms} (h : m.ok) : m.cells.length = 119 := by
  have h1 := h.vt.len
  have h2 := h.ct.len
  have h3 := h.dl
  simp only [Ms.cells, List.length_append, List.length_cons, List.length_nil, v8_length]
  omega
theorem Ms.ok.one {m : Ms} (h : m.ok) : ∀ v ∈ m.cells, v.oneCell' = true := by
  intro v hv
  simp only [Ms.cells, List.mem_append, List.mem_cons, List.not_mem_nil, or_false] at hv
  rcases hv with (rfl | rfl | rfl | rfl | rfl | rfl | rfl) | hv | (rfl | rfl | rfl | rfl | rfl) | hv | hv | (rfl | rfl | rfl)
  all_goals first | rfl | exact h.rs | exact h.he | exact h.ne | exact h.cs | exact h.sg | exact Vt.one _ _ hv | exact v8_one _ _ hv
/-- where a message's parts lie -/
structure Ms.at (m : Ms) (w : World) (b : Nat) : Prop where
  k : w.cell? ⟨b, 0, none⟩ = some (.int .i64 m.k)
  e : w.cell? ⟨b, 1, none⟩ = some (.int .i64 m.e)
  l : w.cell? ⟨b, 2, none⟩ = some (.int .i64 m.l)
  v : w.cell? ⟨b, 3, none⟩ = some (.int .i64 m.v)
  s : w.cell? ⟨b, 4, none⟩ = some (.int .i64 m.s)
  q : w.cell? ⟨b, 5, none⟩ = some (.bool m.q)
  rs : w.cell? ⟨b, 6, none⟩ = some m.rs
  vt : w.rangeAt b 7 m.vt.cells
  ce : w.cell? ⟨b, 43, none⟩ = some (.int .i64 m.ce)
  cl : w.cell? ⟨b, 44, none⟩ = some (.int .i64 m.cl)
  cv : w.cell? ⟨b, 45, none⟩ = some (.int .i64 m.cv)
  he : w.cell? ⟨b, 46, none⟩ = some m.he
  ne : w.cell? ⟨b, 47, none⟩ = some m.ne
  d : w.rangeAt b 48 (v8 m.d)
  ct : w.rangeAt b 80 (m.ct.cells ++ [m.cs])
  st : w.cell? ⟨b, 117, none⟩ = some (.string m.st)
  sg : w.cell? ⟨b, 118, none⟩ = some m.sg
theorem Ms.ok.at {m : Ms} (h : m.ok) {w : World} {b : Nat} (hr : w.rangeAt b 0 m.cells) : m.at w b := by
  have h1 := h.vt.len
  have h2 := h.ct.len
  have h3 := h.dl
  have a0 := range_left hr
  have a1 := range_right hr
  have b0 := range_left a1
  have b1 := range_right a1
  have c0 := range_left b1
  have c1 := range_right b1
  have d0 := range_left c1
  have d1 := range_right c1
  have e0 := range_left d1
  have e1 := range_right d1
  simp only [List.length_cons, List.length_nil, v8_length, h1, h2, h3, Nat.zero_add, Nat.reduceAdd] at b0 c0 d0 e0 e1
  refine ⟨a0 0 _ rfl, a0 1 _ rfl, a0 2 _ rfl, a0 3 _ rfl, a0 4 _ rfl, a0 5 _ rfl, a0 6 _ rfl, b0, c0 0 _ rfl, c0 1 _ rfl, c0 2 _ rfl, c0 3 _ rfl, c0 4 _ rfl, d0, ?_, e1 1 _ rfl, e1 2 _ rfl⟩
  refine range_join e0 ?_
  rw [h2]
  intro j v hv
  match j, hv with
  | 0, hv => cases hv; exact e1 0 _ rfl
theorem Ms.box {m : Ms} (h : m.ok) (w : World) : m.at (w.alloc (.cells m.cells.toArray 37)) w.heap.size := h.at (by
  have := range_new w m.cells.toArray 37
  simpa using this)
theorem Ms.at.below {m : Ms} {w w' : World} {b : Nat} (h : m.at w b) (hb : b < w.heap.size) (hB : Below w.heap.size w w') : m.at w' b := by
  have c : ∀ i v, w.cell? ⟨b, i, none⟩ = some v → w'.cell? ⟨b, i, none⟩ = some v := fun i v hv => (hB.cell (p := ⟨b, i, none⟩) hb).trans hv
  exact ⟨c _ _ h.k, c _ _ h.e, c _ _ h.l, c _ _ h.v, c _ _ h.s, c _ _ h.q, c _ _ h.rs, range_below h.vt hB hb, c _ _ h.ce, c _ _ h.cl, c _ _ h.cv, c _ _ h.he, c _ _ h.ne, range_below h.d hB hb, range_below h.ct hB hb, c _ _ h.st, c _ _ h.sg⟩
end Go.Proofs.YtghgomglpgidoaaGreat
namespace Go.Proofs.YtghgomglpgidoaaGreat
open Go.RowKit
open Sha Tal
set_option maxRecDepth 100000 in
set_option maxHeartbeats 2000000 in
theorem wvote_any (X : Nat) (v : Value) (s : List Int × Bool) (x : Vt) (w : World) (hx : x.ok) (h : WrAt w X v s.1 s.2) (hm : s.1.length ≤ 4194304) :
    Calls Tryz.prog 54 #[.pointer (some ⟨X, 0, none⟩), .agg x.cells.toArray] w fun e w' => ∃ v', e = .returned (.tuple #[]) ∧ WrAt w' X v' (wrS (wrN s [x.k, x.e, x.v, x.s]) x.d).1 (wrS (wrN s [x.k, x.e, x.v, x.s]) x.d).2 ∧ Off (WrF X v) w w' ∧ RowOn w v v' := by
  obtain ⟨k, ep, vi, sl, d⟩ := x
  have hB1 : Below w.heap.size w (w.alloc (.cells (Vt.mk k ep vi sl d).cells.toArray 28)) := (Below.refl _ _).alloc (Nat.le_refl _) _
  have hR1 := Vt.box w ⟨k, ep, vi, sl, d⟩
  obtain ⟨c0, c1, c2, c3⟩ := Vt.four hR1
  simp only [Nat.zero_add] at c1 c2 c3
  have hd : (w.alloc (.cells (Vt.mk k ep vi sl d).cells.toArray 28)).rangeAt w.heap.size 4 (v8 d) := fun j u hj => by
    have := hR1 (4 + j) u (by rw [Nat.add_comm]; exact hj)
    rwa [Nat.zero_add] at this
  have hsz : (w.alloc (.cells (Vt.mk k ep vi sl d).cells.toArray 28)).heap.size ≥ w.heap.size + 1 := by simp
  clear hR1
  generalize (Vt.mk k ep vi sl d).cells = q at *
  show Calls Tryz.prog 54 _ w fun e w' => ∃ v', e = .returned (.tuple #[]) ∧ WrAt w' X v' (wrS (wrN s [k, ep, vi, sl]) d).1 (wrS (wrN s [k, ep, vi, sl]) d).2 ∧ Off (WrF X v) w w' ∧ RowOn w v v'
  have hl2 := wrN_len [k, ep, vi, sl] s hm
  obtain ⟨t, ht⟩ : ∃ t, Hid (wrN s [k, ep, vi, sl] = t) := ⟨_, hide rfl⟩
  rw [ht.out] at hl2 ⊢
  go_enter Tryz.func54, Tryz.ntmps54
  go_upto_region 1 with fail
  go_name_world w1 hw1
  rw [show w.alloc (.cells q.toArray 28) = w1 from hw1] at hB1 c0 c1 c2 c3 hd hsz
  clear hw1
  have hX := h.lt
  have hown := h.me.from
  have h1 := h.below hB1
  have hB2 : Below w1.heap.size w1 (w1.alloc (.cells #[.int .i64 k, .int .i64 ep, .int .i64 vi, .int .i64 sl] 3)) := (Below.refl _ _).alloc (Nat.le_refl _) _
  have hR2 : (w1.alloc (.cells #[.int .i64 k, .int .i64 ep, .int .i64 vi, .int .i64 sl] 3)).rangeAt w1.heap.size 0 ([k, ep, vi, sl].map (Value.int .i64)) := by
    have := range_new w1 #[.int .i64 k, .int .i64 ep, .int .i64 vi, .int .i64 sl] 3
    simpa using this
  have hsz2 : (w1.alloc (.cells #[.int .i64 k, .int .i64 ep, .int .i64 vi, .int .i64 sl] 3)).heap.size ≥ w1.heap.size + 1 := by simp
  have h2 := h1.below hB2
  have hd2 := range_below hd hB2 (by omega)
  have cn := nums13_any X v s w1.heap.size 0 4 [k, ep, vi, sl] _ h2 (by simp) (by
    intro n hn
    simp only [List.mem_cons, List.not_mem_nil, or_false] at hn
    rcases hn with rfl | rfl | rfl | rfl
    · exact hx.k
    · exact hx.e
    · exact hx.v
    · exact hx.s) (by omega) hR2 (fun hf => by
    rcases hf with hf | hf
    · omega
    · have := (hown _ hf).2; omega) hm
  have hO0 : Off (WrF X v) w (w1.alloc (.cells #[.int .i64 k, .int .i64 ep, .int .i64 vi, .int .i64 sl] 3)) := Off.of_below (hB1.trans (hB2.mono (by omega)))
  have hdl : d.length = 32 := hx.dl
  have hdb : ∀ z ∈ d, 0 ≤ z ∧ z < 256 := hx.db
  clear hR2 h1 h h2 hd hx
  simp only [List.length_cons, List.length_nil, Nat.zero_add, Nat.reduceAdd] at cn
  rw [ht.out] at cn
  clear ht
  go_wp2_with fail
  obtain ⟨w2, hw2⟩ : ∃ w2, w1.alloc (.cells #[.int .i64 k, .int .i64 ep, .int .i64 vi, .int .i64 sl] 3) = w2 := ⟨_, rfl⟩
  rw [hw2] at hd2 cn hO0 hsz2 ⊢
  clear hw2 hB1 hB2
  refine cn.mono ?_
  rintro e3 w3 ⟨v3, rfl, hW3, hO3, hr3⟩
  have hd3 : w3.rangeAt w.heap.size 4 (v8 d) := range_at hd2 (hO3.2 _ (by omega) (fun hf => by
    rcases hf with hf | hf
    · omega
    · have := (hown _ hf).2; omega))
  have hs3 := hO3.size
  have hrow : RowAt w3 (some ⟨w.heap.size, 4, none⟩) d := ⟨by rw [hdl]; decide, hdb, .inr ⟨_, _, rfl, by omega, hd3⟩⟩
  have cr := raw13_any X v3 t.1 t.2 (some ⟨w.heap.size, 4, none⟩) 32 d w3 hW3 hrow (.inr (fun x hx => by cases hx; show w.heap.size ≠ X; omega)) hl2
  rw [show d.length = 32 from hdl] at cr
  have E : ((fullB t.2 ((32 : Nat) : Int) t.1)) = (fullB t.2 d.length t.1) := by rw [show d.length = 32 from hdl]
  rw [E] at cr
  clear E
  have T0 := wr_trans hO0 (fun g hg => .inl hg) hO3 hr3
  clear cn hd2 hd3 hrow hO3 hr3 hO0 c0 c1 c2 c3
  go_wp2_with fail
  refine cr.mono ?_
  rintro e4 w4 ⟨v4, rfl, hW4, hO4, hr4⟩
  have T := wr_trans T0.1 T0.2 hO4 hr4
  clear cr
  go_wp2_with fail
  go_end0
  exact ⟨v4, rfl, hW4, T.1, T.2⟩
end Go.Proofs.YtghgomglpgidoaaGreat
namespace Go.Proofs.YtghgomglpgidoaaGreat
open Go.RowKit
open Sha Tal
theorem iszV : (Tryz.prog.info? 28).map (·.size) = some 36 := by kernel_rfl
theorem iszM : (Tryz.prog.info? 37).map (·.size) = some 119 := by kernel_rfl
/-- numbers that were just laid -/
theorem nums_new (X : Nat) (v : Value) (s : List Int × Bool) (ns : List Int) (arr : Array Value) (n : Nat) (w : World) (h : WrAt w X v s.1 s.2) (ha : arr = (ns.map (Value.int .i64)).toArray) (hc : ns.length = n) (hl : n ≤ 10) (hn : ∀ n ∈ ns, n ≤ 9223372036854775807) (hm : s.1.length ≤ 4194304) :
    Calls Tryz.prog 52 #[.pointer (some ⟨X, 0, none⟩), .slice (some ⟨w.heap.size, 0, none⟩) n n] (w.alloc (.cells arr 3)) fun e w' => ∃ v', e = .returned (.tuple #[]) ∧ WrAt w' X v' (wrN s ns).1 (wrN s ns).2 ∧ Off (WrF X v) w w' ∧ RowOn w v v' := by
  subst ha hc
  have hB : Below w.heap.size w (w.alloc (.cells (ns.map (Value.int .i64)).toArray 3)) := (Below.refl _ _).alloc (Nat.le_refl _) _
  have hR : (w.alloc (.cells (ns.map (Value.int .i64)).toArray 3)).rangeAt w.heap.size 0 (ns.map (Value.int .i64)) := by
    have := range_new w (ns.map (Value.int .i64)).toArray 3
    simpa using this
  have hX := h.lt
  have hown := h.me.from
  refine (nums13_any X v s w.heap.size 0 ns.length ns _ (h.below hB) (by omega) hn (by simp) hR (fun hf => by
    rcases hf with hf | hf
    · omega
    · have := (hown _ hf).2; omega) hm).mono ?_
  rintro e w' ⟨v', rfl, h1, h2, h3⟩
  have T := wr_trans (Off.of_below hB) (fun g hg => .inl hg) h2 h3
  exact ⟨v', rfl, h1, T.1, T.2⟩
theorem one_le {n : Int} (h : n ≤ 9223372036854775807) : ∀ z ∈ [n], z ≤ 9223372036854775807 := by
  intro z hz; rw [List.mem_singleton.1 hz]; exact h
theorem two_le {n m : Int} (h : n ≤ 9223372036854775807) (h' : m ≤ 9223372036854775807) : ∀ z ∈ [n, m], z ≤ 9223372036854775807 := by
  intro z hz
  simp only [List.mem_cons, List.not_mem_nil, or_false] at hz
  rcases hz with rfl | rfl
  · exact h
  · exact h'
/-- a block that the writer leaves alone -/
theorem wr_off {X : Nat} {v : Value} {w w1 w2 : World} {zs : List Int} {lg : Bool} (h : WrAt w X v zs lg) (hs : w.heap.size < w1.heap.size) (hO : Off (WrF X v) w1 w2) : w2.heap[w.heap.size]? = w1.heap[w.heap.size]? :=
  hO.2 _ hs (fun hf => by
    rcases hf with hf | hf
    · have := h.lt; omega
    · have := (h.me.from _ hf).2; omega)
set_option maxRecDepth 100000 in
set_option maxHeartbeats 2000000 in
theorem wmsg2 (X : Nat) (v : Value) (s : List Int × Bool) (m : Ms) (w : World) (hm : m.ok) (hk : m.k = 2) (h : WrAt w X v s.1 s.2) (hs : s.1.length ≤ 4194304) :
    Calls Tryz.prog 22 #[.pointer (some ⟨X, 0, none⟩), .agg m.cells.toArray] w fun e w' => ∃ v', e = .returned (.tuple #[]) ∧ WrAt w' X v' (wrS (wrN (wrN s [2]) [m.vt.k, m.vt.e, m.vt.v, m.vt.s]) m.vt.d).1 (wrS (wrN (wrN s [2]) [m.vt.k, m.vt.e, m.vt.v, m.vt.s]) m.vt.d).2 ∧ Off (WrF X v) w w' ∧ RowOn w v v' := by
  have hB1 : Below w.heap.size w (w.alloc (.cells m.cells.toArray 37)) := (Below.refl _ _).alloc (Nat.le_refl _) _
  have hsz : w.heap.size < (w.alloc (.cells m.cells.toArray 37)).heap.size := by simp
  have hM := m.box hm w
  have ck := hM.k
  have rv := hM.vt
  rw [hk] at ck
  have hl1 := wrN_len [2] s hs
  have hvo := hm.vt
  have iv : (Tryz.prog.info? 28).map (·.size) = some m.vt.cells.length := by rw [hvo.len]; exact iszV
  clear hk hm hM
  generalize m.cells = q at *
  generalize m.vt = x at *
  obtain ⟨t, ht⟩ : ∃ t, Hid (wrN s [2] = t) := ⟨_, hide rfl⟩
  rw [ht.out] at hl1 ⊢
  go_enter Tryz.func22, Tryz.ntmps22
  go_upto_region 1 with fail
  go_name_world w1 hw1
  rw [show w.alloc (.cells q.toArray 37) = w1 from hw1] at hB1 ck rv hsz
  clear hw1
  have cn := nums_new X v s [2] #[.int .i64 2] 1 w1 (h.below hB1) rfl rfl (by omega) (one_le (by omega)) hs
  rw [ht.out] at cn
  clear ht
  go_wp2_with fail
  refine cn.mono ?_
  rintro e2 w2 ⟨v2, rfl, hW2, hO2, hr2⟩
  clear cn
  have hb2 := wr_off h hsz hO2
  have ck2 : w2.cell? ⟨w.heap.size, 0, none⟩ = some (.int .i64 2) := by rw [← ck]; simp [World.cell?, hb2]
  have rv2 := range_at rv hb2
  have T1 := wr_trans (Off.of_below (F := WrF X v) hB1) (fun g hg => .inl hg) hO2 hr2
  have cv := wvote_any X v2 t x w2 hvo hW2 hl1
  obtain ⟨xc, hxc⟩ : ∃ xc, Hid (x.cells = xc) := ⟨_, hide rfl⟩
  rw [hxc.out] at rv2 cv iv
  clear hxc hb2 hO2 hr2 hB1 ck rv hsz hW2
  go_wp2_with (refine wpList_load_mid rfl 28 _ rfl _ _ rfl xc _ rv2 Tryz.underlying28 rfl iv ?_)
  refine cv.mono ?_
  rintro e3 w3 ⟨v3, rfl, hW3, hO3, hr3⟩
  have T := wr_trans T1.1 T1.2 hO3 hr3
  clear cv
  go_wp2_with fail
  go_end0
  exact ⟨v3, rfl, hW3, T.1, T.2⟩
set_option maxRecDepth 100000 in
set_option maxHeartbeats 2000000 in
theorem wmsg5 (X : Nat) (v : Value) (s : List Int × Bool) (m : Ms) (w : World) (hm : m.ok) (hk : m.k = 5) (he : m.e ≤ 9223372036854775807) (h : WrAt w X v s.1 s.2) (hs : s.1.length ≤ 4194304) :
    Calls Tryz.prog 22 #[.pointer (some ⟨X, 0, none⟩), .agg m.cells.toArray] w fun e w' => ∃ v', e = .returned (.tuple #[]) ∧ WrAt w' X v' (wrS (wrN (wrN s [5]) [m.e]) m.d).1 (wrS (wrN (wrN s [5]) [m.e]) m.d).2 ∧ Off (WrF X v) w w' ∧ RowOn w v v' := by
  have hB1 : Below w.heap.size w (w.alloc (.cells m.cells.toArray 37)) := (Below.refl _ _).alloc (Nat.le_refl _) _
  have hsz : w.heap.size < (w.alloc (.cells m.cells.toArray 37)).heap.size := by simp
  have hM := m.box hm w
  have ck := hM.k
  have ce := hM.e
  have rd := hM.d
  rw [hk] at ck
  have hl1 := wrN_len [5] s hs
  have hl2 := wrN_len [m.e] (wrN s [5]) hl1
  have hdl := hm.dl
  have hdb := hm.db
  clear hk hm hM
  generalize m.d = d at *
  generalize m.cells = q at *
  generalize m.e = ep at *
  obtain ⟨t, ht⟩ : ∃ t, Hid (wrN s [5] = t) := ⟨_, hide rfl⟩
  rw [ht.out] at hl1 hl2 ⊢
  obtain ⟨t2, ht2⟩ : ∃ t2, Hid (wrN t [ep] = t2) := ⟨_, hide rfl⟩
  rw [ht2.out] at hl2 ⊢
  go_enter Tryz.func22, Tryz.ntmps22
  go_upto_region 1 with fail
  go_name_world w1 hw1
  rw [show w.alloc (.cells q.toArray 37) = w1 from hw1] at hB1 ck ce rd hsz
  clear hw1
  have cn := nums_new X v s [5] #[.int .i64 5] 1 w1 (h.below hB1) rfl rfl (by omega) (one_le (by omega)) hs
  rw [ht.out] at cn
  clear ht
  go_wp2_with fail
  refine cn.mono ?_
  rintro e2 w2 ⟨v2, rfl, hW2, hO2, hr2⟩
  clear cn
  have hb2 := wr_off h hsz hO2
  have ck2 : w2.cell? ⟨w.heap.size, 0, none⟩ = some (.int .i64 5) := by rw [← ck]; simp [World.cell?, hb2]
  have ce2 : w2.cell? ⟨w.heap.size, 1, none⟩ = some (.int .i64 ep) := by rw [← ce]; simp [World.cell?, hb2]
  have rd2 := range_at rd hb2
  have hne : ¬ WrF X v2 w.heap.size := fun hf => by
    have hX := h.lt
    rcases hf with hf | hf
    · omega
    · rcases hr2 _ hf with hf | hf
      · have := (h.me.from _ hf).2; omega
      · omega
  have hsz2 : w.heap.size < w2.heap.size := Nat.lt_of_lt_of_le hsz hO2.size
  have T1 := wr_trans (Off.of_below (F := WrF X v) hB1) (fun g hg => .inl hg) hO2 hr2
  have cn2 := nums_new X v2 t [ep] #[.int .i64 ep] 1 w2 hW2 rfl rfl (by omega) (one_le he) hl1
  rw [ht2.out] at cn2
  clear hb2 hO2 hr2 hB1 ck ce rd hsz ht2
  go_wp2_with fail
  refine cn2.mono ?_
  rintro e3 w3 ⟨v3, rfl, hW3, hO3, hr3⟩
  clear cn2
  have hX := h.lt
  have hb3 : w3.heap[w.heap.size]? = w2.heap[w.heap.size]? := hO3.2 _ hsz2 hne
  have rd3 := range_at rd2 hb3
  have hsz3 : w.heap.size < w3.heap.size := Nat.lt_of_lt_of_le hsz2 hO3.size
  have hrow : RowAt w3 (some ⟨w.heap.size, 48, none⟩) d := ⟨by rw [hdl]; decide, hdb, .inr ⟨_, _, rfl, hsz3, rd3⟩⟩
  have cr := raw13_any X v3 t2.1 t2.2 (some ⟨w.heap.size, 48, none⟩) 32 d w3 hW3 hrow (.inr (fun x hx => by cases hx; show w.heap.size ≠ X; omega)) hl2
  have T2 := wr_trans T1.1 T1.2 hO3 hr3
  have E : ∀ n : Nat, n = 32 → (Value.slice (some ⟨w.heap.size, 48, none⟩) n 32) = (Value.slice (some ⟨w.heap.size, 48, none⟩) 32 32) := fun n hn => by rw [hn]
  rw [E _ hdl] at cr
  clear hO3 hr3 rd2 rd3 hrow E hb3 ck2 ce2 hW2 hX hne T1 hW3 hsz2 hsz3
  go_wp2_with fail
  refine cr.mono ?_
  rintro e4 w4 ⟨v4, rfl, hW4, hO4, hr4⟩
  have T := wr_trans T2.1 T2.2 hO4 hr4
  clear cr
  go_wp2_with fail
  go_end0
  exact ⟨v4, rfl, hW4, T.1, T.2⟩
set_option maxRecDepth 100000 in
set_option maxHeartbeats 2000000 in
theorem wmsg6 (X : Nat) (v : Value) (s : List Int × Bool) (m : Ms) (w : World) (hm : m.ok) (hk : m.k = 6) (he : m.e ≤ 9223372036854775807) (he2 : m.s ≤ 9223372036854775807) (h : WrAt w X v s.1 s.2) (hs : s.1.length ≤ 4194304) :
    Calls Tryz.prog 22 #[.pointer (some ⟨X, 0, none⟩), .agg m.cells.toArray] w fun e w' => ∃ v', e = .returned (.tuple #[]) ∧ WrAt w' X v' (wrN (wrN s [6]) [m.e, m.s]).1 (wrN (wrN s [6]) [m.e, m.s]).2 ∧ Off (WrF X v) w w' ∧ RowOn w v v' := by
  have hB1 : Below w.heap.size w (w.alloc (.cells m.cells.toArray 37)) := (Below.refl _ _).alloc (Nat.le_refl _) _
  have hsz : w.heap.size < (w.alloc (.cells m.cells.toArray 37)).heap.size := by simp
  have hM := m.box hm w
  have ck := hM.k
  have ce := hM.e
  have cs := hM.s
  rw [hk] at ck
  have hl1 := wrN_len [6] s hs
  clear hk hm hM
  generalize m.s = sl at *
  generalize m.cells = q at *
  generalize m.e = ep at *
  obtain ⟨t, ht⟩ : ∃ t, Hid (wrN s [6] = t) := ⟨_, hide rfl⟩
  rw [ht.out] at hl1 ⊢
  go_enter Tryz.func22, Tryz.ntmps22
  go_upto_region 1 with fail
  go_name_world w1 hw1
  rw [show w.alloc (.cells q.toArray 37) = w1 from hw1] at hB1 ck ce cs hsz
  clear hw1
  have cn := nums_new X v s [6] #[.int .i64 6] 1 w1 (h.below hB1) rfl rfl (by omega) (one_le (by omega)) hs
  rw [ht.out] at cn
  clear ht
  go_wp2_with fail
  refine cn.mono ?_
  rintro e2 w2 ⟨v2, rfl, hW2, hO2, hr2⟩
  clear cn
  have hb2 := wr_off h hsz hO2
  have ck2 : w2.cell? ⟨w.heap.size, 0, none⟩ = some (.int .i64 6) := by rw [← ck]; simp [World.cell?, hb2]
  have ce2 : w2.cell? ⟨w.heap.size, 1, none⟩ = some (.int .i64 ep) := by rw [← ce]; simp [World.cell?, hb2]
  have cs2 : w2.cell? ⟨w.heap.size, 4, none⟩ = some (.int .i64 sl) := by rw [← cs]; simp [World.cell?, hb2]
  have T1 := wr_trans (Off.of_below (F := WrF X v) hB1) (fun g hg => .inl hg) hO2 hr2
  have cn2 := nums_new X v2 t [ep, sl] #[.int .i64 ep, .int .i64 sl] 2 w2 hW2 rfl rfl (by omega) (two_le he he2) hl1
  clear hb2 hO2 hr2 hB1 ck ce cs hsz hW2
  go_wp2_with fail
  refine cn2.mono ?_
  rintro e3 w3 ⟨v3, rfl, hW3, hO3, hr3⟩
  have T := wr_trans T1.1 T1.2 hO3 hr3
  clear cn2
  go_wp2_with fail
  go_end0
  exact ⟨v3, rfl, hW3, T.1, T.2⟩
end Go.Proofs.YtghgomglpgidoaaGreat
namespace Go.Proofs.YtghgomglpgidoaaGreat
open Go.RowKit
open Sha Tal
theorem wpList_build {P : Program} {ops : Array Oper} {rest : List Oper} {o : Oper} {a : Act} {w : World} {Q : Exit → Act → World → Prop} (hgd : o.guard = none) (t : TypeId) (parts : List (Nat × Operand)) (ho : o.op = .build t parts.toArray) (vs : List (Nat × Value)) (v : Value) (hv : (parts.map fun (x : Nat × Operand) => (x.1, a.eval x.2)) = vs)
    (hr : (Instr.build t vs.toArray).run P w = .ok v w) (h : wpList P ops Q rest (a.put o.dst v) w) : wpList P ops Q (o :: rest) a w := by
  refine wpList_plain hgd fun K hK => ?_
  unfold Oper.wp execOp
  subst hv
  have e : Array.map (fun (x : Nat × Operand) => (x.1, a.eval x.2)) parts.toArray = (parts.map fun (x : Nat × Operand) => (x.1, a.eval x.2)).toArray := by simp
  simp only [ho]
  rw [show (Instr.build t (Array.map (fun x => match x with | (i, x) => (i, a.eval x)) parts.toArray)) = Instr.build t (parts.map fun (x : Nat × Operand) => (x.1, a.eval x.2)).toArray from congrArg _ e]
  simp only [Sem.run_bind, hr, Result.andThen_ok, Sem.run_pure]
  exact hK _ _ h
/-- a message without lists -/
def Ms.plain (k e s : Int) (x : Vt) (d : List Int) : Ms := ⟨k, e, 0, 0, s, false, .slice none 0 0, x, 0, 0, 0, .slice none 0 0, .slice none 0 0, d, Vt.zero, .slice none 0 0, ⟨#[]⟩, .slice none 0 0⟩
def zeros32 : List Int := List.replicate 32 0
theorem zeros32_len : zeros32.length = 32 := by decide
theorem zeros32_byte : ∀ z ∈ zeros32, 0 ≤ z ∧ z < 256 := by decide
def Ms.zero : Ms := Ms.plain 0 0 0 Vt.zero zeros32
theorem Ms.plain_ok (k e s : Int) {x : Vt} {d : List Int} (hx : x.ok) (hd : d.length = 32) (hb : ∀ z ∈ d, 0 ≤ z ∧ z < 256) : (Ms.plain k e s x d).ok :=
  ⟨hx, Vt.zero_ok, hd, hb, rfl, rfl, rfl, rfl, rfl⟩
set_option maxRecDepth 100000 in
theorem zeroM (w : World) : (zeroValue 37).run Tryz.prog w = .ok (.agg Ms.zero.cells.toArray) w := by kernel_rfl
theorem fold_at (off : Nat) : ∀ (u : List Value) (k : Nat) (arr : Array Value), off + k + u.length ≤ arr.size → List.foldl (fun (cs : Array Value) (x : Value × Nat) => cs.setIfInBounds (off + x.snd) x.fst) arr (u.zipIdx k) = (arr.toList.take (off + k) ++ (u ++ arr.toList.drop (off + k + u.length))).toArray
  | [], k, arr, h => by simp
  | a :: u, k, arr, h => by
    simp only [List.length_cons] at h
    rw [List.zipIdx_cons, List.foldl_cons, fold_at off u (k + 1) _ (by simp; omega)]
    congr 1
    have hlt : off + k < arr.toList.length := by simp; omega
    rw [Array.toList_setIfInBounds]
    simp only [List.length_cons]
    rw [List.drop_set_of_lt (by omega), show off + (k + 1) + u.length = off + k + (u.length + 1) by omega, show off + (k + 1) = off + k + 1 by omega, List.take_succ_eq_append_getElem (by simpa using hlt), List.getElem_set_self, List.take_set_of_le (Nat.le_refl _)]
    simp
theorem fill_step {place : Nat → Option (Nat × Nat)} {i off n : Nat} {v : Value} {rest : List (Nat × Value)} {vs pre mid post : List Value} (hp : place i = some (off, n)) (hn : mid.length = n) (hpre : pre.length = off) (hv : v.cells = vs.toArray) (hl : vs.length = n) :
    Instr.fill place (pre ++ (mid ++ post)).toArray ((i, v) :: rest) = Instr.fill place (pre ++ (vs ++ post)).toArray rest := by
  subst hn hpre
  rw [Instr.fill, hp]
  simp only [hv, List.size_toArray, hl, ne_eq, not_true_eq_false, decide_false, Bool.false_or, List.length_append]
  rw [if_neg (by simp)]
  congr 1
  have := fold_at pre.length vs 0 (pre ++ (mid ++ post)).toArray (by simp; omega)
  simp only [Nat.add_zero] at this
  rw [show (vs.toArray.zipIdx.foldl (fun cs (x : Value × Nat) => cs.setIfInBounds (pre.length + x.2) x.1) (pre ++ (mid ++ post)).toArray) = List.foldl (fun (cs : Array Value) (x : Value × Nat) => cs.setIfInBounds (pre.length + x.snd) x.fst) (pre ++ (mid ++ post)).toArray (vs.zipIdx 0) by simp, this]
  congr 1
  rw [List.take_left, hl, ← List.append_assoc pre mid post, ← List.length_append, List.drop_left]
def placesM : Array (Nat × Nat) := #[(0, 1), (1, 1), (2, 1), (3, 1), (4, 1), (5, 2), (7, 36), (43, 4), (47, 1), (48, 32), (80, 37), (117, 1), (118, 1)]
set_option maxRecDepth 100000 in
theorem build_msg (parts : Array (Nat × Value)) (cs : List Value) (w : World) (h : Instr.fill (placesM[·]?) Ms.zero.cells.toArray parts.toList = some cs.toArray) : (Instr.build 37 parts).run Tryz.prog w = .ok (.agg cs.toArray) w := by
  have hp : (((Tryz.prog.fieldsOf 37).mapM fun f => do pure (f.offset, ← sizeOf f.type) : Sem (Array (Nat × Nat)))).run Tryz.prog w = .ok placesM w := by kernel_rfl
  have hu : Tryz.prog.underlying 37 = some (.struct (Tryz.prog.fieldsOf 37)) := by kernel_rfl
  unfold Instr.build
  simp only [Sem.run_bind, zeroM, Result.andThen_ok, run_underlying hu]
  rw [hp]
  simp only [Result.andThen_ok, Value.cells]
  rw [h]
  rfl
theorem build_vote (x : Vt) (hx : x.ok) (w : World) : (Instr.build 37 #[(0, .int .i64 2), (6, .agg x.cells.toArray)]).run Tryz.prog w = .ok (.agg (Ms.plain 2 0 0 x zeros32).cells.toArray) w := by
  refine build_msg _ _ w ?_
  show Instr.fill (placesM[·]?) (([] : List Value) ++ ([Value.int .i64 0] ++ _)).toArray _ = _
  rw [fill_step (off := 0) (n := 1) (vs := [.int .i64 2]) rfl rfl rfl rfl rfl]
  show Instr.fill (placesM[·]?) ([Value.int .i64 2, .int .i64 0, .int .i64 0, .int .i64 0, .int .i64 0, .bool false, .slice none 0 0] ++ (Vt.zero.cells ++ _)).toArray _ = _
  rw [fill_step (off := 7) (n := 36) (vs := x.cells) rfl Vt.zero_ok.len rfl rfl hx.len]
  rfl
theorem build_mark (e : Int) (d : List Int) (hd : d.length = 32) (w : World) : (Instr.build 37 #[(0, .int .i64 5), (1, .int .i64 e), (9, .agg (v8 d).toArray)]).run Tryz.prog w = .ok (.agg (Ms.plain 5 e 0 Vt.zero d).cells.toArray) w := by
  refine build_msg _ _ w ?_
  show Instr.fill (placesM[·]?) (([] : List Value) ++ ([Value.int .i64 0] ++ _)).toArray _ = _
  rw [fill_step (off := 0) (n := 1) (vs := [.int .i64 5]) rfl rfl rfl rfl rfl]
  show Instr.fill (placesM[·]?) ([Value.int .i64 5] ++ ([Value.int .i64 0] ++ _)).toArray _ = _
  rw [fill_step (off := 1) (n := 1) (vs := [.int .i64 e]) rfl rfl rfl rfl rfl]
  show Instr.fill (placesM[·]?) (([Value.int .i64 5, Value.int .i64 e, Value.int .i64 0, Value.int .i64 0, Value.int .i64 0, Value.bool false, Value.slice none 0 0] ++ (Vt.zero.cells ++ [Value.int .i64 0, Value.int .i64 0, Value.int .i64 0, Value.slice none 0 0, Value.slice none 0 0])) ++ (v8 zeros32 ++ (Vt.zero.cells ++ [Value.slice none 0 0, Value.string ⟨#[]⟩, Value.slice none 0 0]))).toArray _ = _
  rw [fill_step (off := 48) (n := 32) (vs := v8 d) rfl rfl rfl rfl (by rw [v8_length, hd])]
  rfl
theorem build_kind (k : Int) (w : World) : (Instr.build 37 #[(0, .int .i64 k)]).run Tryz.prog w = .ok (.agg (Ms.plain k 0 0 Vt.zero zeros32).cells.toArray) w := by
  refine build_msg _ _ w ?_
  show Instr.fill (placesM[·]?) (([] : List Value) ++ ([Value.int .i64 0] ++ _)).toArray _ = _
  rw [fill_step (off := 0) (n := 1) (vs := [.int .i64 k]) rfl rfl rfl rfl rfl]
  rfl
theorem build_state (k e s : Int) (w : World) : (Instr.build 37 #[(0, .int .i64 k), (1, .int .i64 e), (4, .int .i64 s)]).run Tryz.prog w = .ok (.agg (Ms.plain k e s Vt.zero zeros32).cells.toArray) w := by
  refine build_msg _ _ w ?_
  show Instr.fill (placesM[·]?) (([] : List Value) ++ ([Value.int .i64 0] ++ _)).toArray _ = _
  rw [fill_step (off := 0) (n := 1) (vs := [.int .i64 k]) rfl rfl rfl rfl rfl]
  show Instr.fill (placesM[·]?) ([Value.int .i64 k] ++ ([Value.int .i64 0] ++ _)).toArray _ = _
  rw [fill_step (off := 1) (n := 1) (vs := [.int .i64 e]) rfl rfl rfl rfl rfl]
  show Instr.fill (placesM[·]?) ([Value.int .i64 k, .int .i64 e, .int .i64 0, .int .i64 0] ++ ([Value.int .i64 0] ++ _)).toArray _ = _
  rw [fill_step (off := 4) (n := 1) (vs := [.int .i64 s]) rfl rfl rfl rfl rfl]
  rfl
end Go.Proofs.YtghgomglpgidoaaGreat
namespace Go.Proofs.YtghgomglpgidoaaGreat
open Go Go.RowKit
section
variable {P : Program} {ops : Array Oper} {Q : Exit → Act → World → Prop}
def StepS (P : Program) (ops : Array Oper) (Q : Exit → Act → World → Prop) (S : World → Prop) (fuel : Nat) (listed : Array Bool) (i : Nat) (a : Act) (w : World) : Prop :=
  wpOp P ops (NoPanic Q) i (fun a' w' => S w' ∧ wpAnyH P .any ops (NoPanic Q) S fuel (listed.setIfInBounds i true) a' w') a w
theorem hs_fork {i j : Nat} {S : World → Prop} {fuel : Nat} {listed : Array Bool} {a : Act} {w : World} (hr : Region.ready .any ops listed = [i, j])
    (h1 : StepS P ops Q S fuel listed i a w) (h2 : StepS P ops Q S fuel listed j a w) : HeldS P ops Q S (fuel + 1) listed a w := by
  refine wpAnyH_all hr (by simp) ?_
  intro k hk
  rcases List.mem_cons.1 hk with rfl | hk
  · exact h1
  · obtain rfl := List.mem_singleton.1 hk
    exact h2
theorem st_call {i : Nat} {S : World → Prop} {oi : Oper} {d : Option Nat} {f : FuncId} {args : Array Value} {fuel : Nat} {listed : Array Bool} {a : Act} {w : World} (hi : ops[i]? = some oi)
    (hw : Region.wanted oi (yielded ops a.tmps) = true) (hy : (execOp a.eval oi).run P w = .ok (.enter f args) w) (hdst : oi.dst = d)
    (h : Calls P f args w fun e w' => ∃ v, e = .returned v ∧ S w' ∧ HeldS P ops Q S fuel (listed.setIfInBounds i true) (a.put d v) w') : StepS P ops Q S fuel listed i a w := by
  subst hdst
  unfold StepS wpOp
  simp only [hi, hw, if_true]
  left
  unfold Oper.wp
  rw [hy]
  refine h.mono ?_
  rintro e w' ⟨v, rfl, hb, hk⟩
  exact ⟨hb, hk⟩
theorem st_run {i : Nat} {S : World → Prop} {oi : Oper} {d : Option Nat} {v : Value} {fuel : Nat} {listed : Array Bool} {a : Act} {w w' : World} (hi : ops[i]? = some oi)
    (hw : Region.wanted oi (yielded ops a.tmps) = true) (hy : (execOp a.eval oi).run P w = .ok (.value v) w') (hdst : oi.dst = d)
    (hS : S w') (h : HeldS P ops Q S fuel (listed.setIfInBounds i true) (a.put d v) w') : StepS P ops Q S fuel listed i a w := by
  subst hdst
  unfold StepS wpOp
  simp only [hi, hw, if_true]
  left
  unfold Oper.wp
  rw [hy]
  exact ⟨hS, h⟩
end
end Go.Proofs.YtghgomglpgidoaaGreat
namespace Go.Proofs.YtghgomglpgidoaaGreat
open Go.RowKit
open Sha Tal
theorem range_put {w : World} {b : Nat} {pre mid post vs : List Value} (h : w.rangeAt b 0 (pre ++ (mid ++ post))) (o : Nat) (ho : pre.length = o) (ht : w.there b o vs.length) (hl : vs.length = mid.length) : (w.setCells b o vs).rangeAt b 0 (pre ++ (vs ++ post)) := by
  subst ho
  have h1 := range_left h
  have h2 := range_right (range_right h)
  rw [Nat.zero_add] at h2
  refine range_join (World.rangeAt_setCells_apart h1 _ _ _ (.inr (.inl (by omega)))) (range_join ?_ ?_)
  · rw [Nat.zero_add]; exact World.rangeAt_setCells_same _ _ _ _ ht
  · rw [Nat.zero_add, hl]; exact World.rangeAt_setCells_apart h2 _ _ _ (.inr (.inr (by omega)))
/-- what a call of bare leaves -/
def BareOk (w : World) (q : List Value) : Ending → World → Prop := fun e w' => e = .returned (.agg q.toArray) ∧ Below w.heap.size w w'
/-- a message is boxed, and an answer's cell -/
theorem bare_box (q z : List Value) (w : World) (hz : z.length = 119) : ((w.alloc (.cells q.toArray 37)).alloc (.cells z.toArray 37)).rangeAt w.heap.size 0 q ∧ ((w.alloc (.cells q.toArray 37)).alloc (.cells z.toArray 37)).there (w.heap.size + 1) 0 119 ∧ Below w.heap.size w ((w.alloc (.cells q.toArray 37)).alloc (.cells z.toArray 37)) ∧ w.heap.size + 2 ≤ ((w.alloc (.cells q.toArray 37)).alloc (.cells z.toArray 37)).heap.size := by
  have hB : Below w.heap.size w (w.alloc (.cells q.toArray 37)) := (Below.refl _ _).alloc (Nat.le_refl _) _
  have hB2 : Below (w.alloc (.cells q.toArray 37)).heap.size (w.alloc (.cells q.toArray 37)) ((w.alloc (.cells q.toArray 37)).alloc (.cells z.toArray 37)) := (Below.refl _ _).alloc (Nat.le_refl _) _
  have h1 := range_new w q.toArray 37
  have h2 := there_new (w.alloc (.cells q.toArray 37)) z.toArray 37
  rw [show z.toArray.size = 119 by simpa using hz, World.size_alloc] at h2
  refine ⟨range_below (by simpa using h1) hB2 (by simp), h2, hB.trans (hB2.mono (by simp)), by simp⟩
set_option maxRecDepth 100000 in
set_option maxHeartbeats 2000000 in
theorem bare2 (x : Vt) (hx : x.ok) (w : World) : Calls Tryz.prog 24 #[.agg (Ms.plain 2 0 0 x zeros32).cells.toArray] w (BareOk w (Ms.plain 2 0 0 x zeros32).cells) := by
  have hm : (Ms.plain 2 0 0 x zeros32).ok := Ms.plain_ok 2 0 0 hx zeros32_len zeros32_byte
  have hk : (Ms.plain 2 0 0 Vt.zero zeros32).ok := Ms.plain_ok 2 0 0 Vt.zero_ok zeros32_len zeros32_byte
  have hz0 : Ms.zero.ok := Ms.plain_ok 0 0 0 Vt.zero_ok zeros32_len zeros32_byte
  have lm := hm.len
  have lk := hk.len
  have lz := hz0.len
  have lx := hx.len
  have om := all_oneCell_toArray hm.one
  have ok := all_oneCell_toArray hk.one
  have ox := all_oneCell_toArray x.one
  have hz := zeroM
  have hbk := build_kind 2
  have hat : ∀ (w' : World) b, w'.rangeAt b 0 (Ms.plain 2 0 0 x zeros32).cells → w'.cell? ⟨b, 0, none⟩ = some (.int .i64 2) ∧ w'.rangeAt b 7 x.cells := fun w' b h => ⟨(hm.at h).k, (hm.at h).vt⟩
  have hput : ∀ (w' : World) b, w'.rangeAt b 0 (Ms.plain 2 0 0 Vt.zero zeros32).cells → w'.there b 7 36 → (w'.setCells b 7 x.cells).rangeAt b 0 (Ms.plain 2 0 0 x zeros32).cells := fun w' b h ht => range_put (mid := Vt.zero.cells) h 7 rfl (by rw [lx]; exact ht) (by rw [lx, Vt.zero_ok.len])
  have im : (Tryz.prog.info? 37).map (·.size) = some (Ms.plain 2 0 0 x zeros32).cells.length := by rw [lm]; exact iszM
  have im' : (Tryz.prog.info? 37).map (·.size) = some (Ms.plain 2 0 0 x zeros32).cells.toArray.size := by rw [List.size_toArray, lm]; exact iszM
  have ik' : (Tryz.prog.info? 37).map (·.size) = some (Ms.plain 2 0 0 Vt.zero zeros32).cells.toArray.size := by rw [List.size_toArray, lk]; exact iszM
  have ix : (Tryz.prog.info? 28).map (·.size) = some x.cells.length := by rw [lx]; exact iszV
  have ix' : (Tryz.prog.info? 28).map (·.size) = some x.cells.toArray.size := by rw [List.size_toArray, lx]; exact iszV
  clear hm hk hz0 hx
  generalize (Ms.plain 2 0 0 x zeros32).cells = q at *
  generalize (Ms.plain 2 0 0 Vt.zero zeros32).cells = qk at *
  generalize Ms.zero.cells = z at *
  generalize x.cells = u at *
  obtain ⟨hA, hT, hB, hs⟩ := bare_box q z w lz
  go_enter Tryz.func24, Tryz.ntmps24
  go_upto_region 1 with fail
  go_name_world w1 hw1
  rw [show (w.alloc (.cells q.toArray 37)).alloc (.cells z.toArray 37) = w1 from hw1] at hA hT hB hs
  clear hw1
  have c0 := (hat _ _ hA).1
  obtain ⟨r2, hB2, hs2, hT2⟩ := fresh_store w1 z.toArray 37 qk (by rw [List.size_toArray, lz, lk])
  rw [show z.toArray.size = 119 by simpa using lz] at hT2
  have hTz : (w1.alloc (.cells z.toArray 37)).there w1.heap.size 0 qk.toArray.size := by
    have := there_new w1 z.toArray 37
    rw [show z.toArray.size = 119 by simpa using lz] at this
    rw [show qk.toArray.size = 119 by simpa using lk]
    exact this
  go_upto_region 2 with (first | (refine wpList_build rfl 37 [(0, .tmp 5)] rfl [(0, .int .i64 2)] _ rfl (hbk _) ?_) | refine wpList_store_mid rfl 37 _ _ rfl _ _ qk.toArray rfl rfl hTz ik' ok ?_)
  go_name_world w2 hw2
  rw [show (w1.alloc (.cells z.toArray 37)).setCells w1.heap.size 0 qk = w2 from hw2] at r2 hB2 hs2 hT2
  have hs2' : w1.heap.size < w2.heap.size := by omega
  clear hw2 hs2 hTz
  have hA2 := range_below hA hB2 (by omega)
  have hT1 := there_below hT hB2 (by omega)
  have hBw := hB.trans (hB2.mono (by omega))
  obtain ⟨c2, v2⟩ := hat _ _ hA2
  have hTv : w2.there w1.heap.size 7 u.toArray.size := by
    rw [show u.toArray.size = 36 by simpa using lx]
    have := there_part hT2 7 36 (by omega)
    rwa [Nat.zero_add] at this
  have r3 := hput _ _ r2 (by have := there_part hT2 7 36 (by omega); rwa [Nat.zero_add] at this)
  have hT3 : (w2.setCells w1.heap.size 7 u).there (w.heap.size + 1) 0 q.toArray.size := by
    rw [show q.toArray.size = 119 by simpa using lm]
    exact World.there_setCells hT1 _ _ _
  have hB3 := below_sets (show w.heap.size ≤ w1.heap.size by omega) u 7 _ hBw
  clear hA hT hB hB2 hA2 hT1 hBw c0 r2 hT2
  go_upto_region 20 with (first | (refine wpList_load_mid rfl 28 _ rfl _ _ rfl u _ v2 Tryz.underlying28 rfl ix ?_) | (refine wpList_store_mid rfl 28 _ _ rfl _ _ u.toArray rfl rfl hTv ix' ox ?_))
  go_name_world w3 hw3
  rw [show w2.setCells w1.heap.size 7 u = w3 from hw3] at r3 hT3 hB3
  clear hw3 hTv v2 c2
  have r4 := World.rangeAt_setCells_same w3 (w.heap.size + 1) 0 q (by have := hT3; rwa [List.size_toArray] at this)
  have hB4 := below_sets (show w.heap.size ≤ w.heap.size + 1 by omega) q 0 _ hB3
  have hrs := run_loadVar_mid (P := Tryz.prog) _ (w.heap.size + 1) 0 37 q _ r4 Tryz.underlying37 rfl im
  go_wp2_with (first | (refine wpList_load_mid rfl 37 _ rfl _ _ rfl q _ r3 Tryz.underlying37 rfl im ?_) | (refine wpList_store_mid rfl 37 _ _ rfl _ _ q.toArray rfl rfl hT3 im' om ?_))
  exact bodyPost_ret (v := .agg q.toArray) (by simp [results, Tryz.results24, asAddr, hrs, Act.put]) rfl ⟨rfl, hB4⟩
end Go.Proofs.YtghgomglpgidoaaGreat
