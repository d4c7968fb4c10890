/- message's writer: room, raw; message's writer: raw; message's writer: numbers; messages: their cells; message's writer: votes; message's writer: votes, marks, states of a node; messages that are built out of parts; message.bare at votes, marks and statuses; message.bare at marks and statuses; Two arrays of bytes, compared.; votes compared; lists without an element -/
import Derived.Test.YtahdmajppnffeaaJM1
import Derived.Laws.StructEq
namespace Go.Proofs.Ytahdmajppnffeaa
open Go.RowKit
open Sha Tal
/-- a writer in block X: its row and whether there would be more -/
structure WrAt (w : World) (X : Nat) (v : Value) (zs : List Int) (lg : Bool) : Prop where
  lt : X < w.heap.size
  c0 : w.cell? ⟨X, 0, none⟩ = some v
  c1 : w.cell? ⟨X, 1, none⟩ = some (.bool lg)
  th : w.there X 0 2
  me : Mine w (X + 1) v zs
theorem WrAt.f0 {w : World} {X : Nat} {v : Value} {zs : List Int} {lg : Bool} (h : WrAt w X v zs lg) : w.frozen? ⟨X, 0, none⟩ = false := by
  have := (h.th 0 (by omega)).2
  simpa using this
theorem WrAt.f1 {w : World} {X : Nat} {v : Value} {zs : List Int} {lg : Bool} (h : WrAt w X v zs lg) : w.frozen? ⟨X, 1, none⟩ = false := by
  have := (h.th 1 (by omega)).2
  simpa using this
theorem Mine.far {w w' : World} {B : Nat} {v : Value} {zs : List Int} (h : Mine w B v zs) (hb : ∀ g, v.ownBlock = some g → w'.heap[g]? = w.heap[g]?) : Mine w' B v zs := ⟨owns_at h.1 hb, h.2⟩
theorem Mine.from {w : World} {B : Nat} {v : Value} {zs : List Int} (h : Mine w B v zs) (g : Nat) (hg : v.ownBlock = some g) : B ≤ g ∧ g < w.heap.size := by
  rcases h.1.2 with ⟨rfl, _⟩ | ⟨g', cap, cur, rfl, h2, h3, h4⟩
  · simp [Value.ownBlock] at hg
  · simp [Value.ownBlock] at hg
    subst hg
    exact ⟨h2, (Array.getElem?_eq_some_iff.1 h3).1⟩
/-- the flag is set -/
theorem WrAt.flag {w : World} {X : Nat} {v : Value} {zs : List Int} {lg : Bool} (h : WrAt w X v zs lg) (b : Bool) : WrAt (w.setCell ⟨X, 1, none⟩ (.bool b)) X v zs b where
  lt := by simpa [World.setCell] using h.lt
  c0 := by exact (World.cell?_setCell_other (w := w) (h := (by simp)) ..).trans h.c0
  c1 := World.cell?_setCell_same (w := w) (h := h.c1) ..
  th := there_set h.th _ _
  me := h.me.far (fun g hg => Below.heap_setCell _ _ _ _ (by have := (h.me.from g hg).1; show g ≠ X; omega))
def fullB (lg : Bool) (n : Int) (zs : List Int) : Bool := lg || decide (4194304 - (zs.length : Int) < n)
set_option maxRecDepth 100000 in
set_option maxHeartbeats 2000000 in
theorem room13_any (X : Nat) (v : Value) (zs : List Int) (lg : Bool) (n : Int) (w : World) (h : WrAt w X v zs lg) (hm : zs.length ≤ 4194304) :
    Calls Try.prog 67 #[.pointer (some ⟨X, 0, none⟩), .int .i64 n] w fun e w' => e = .returned (.bool (!(fullB lg n zs))) ∧ w' = w.setCell ⟨X, 1, none⟩ (.bool (fullB lg n zs)) := by
  have fz := h.f1
  obtain ⟨hX, c0, c1, _, hM⟩ := h
  obtain ⟨a, cap, rfl, hc, hc', hR⟩ := hM.rowAt (by unfold maxLen; omega)
  clear hM hR
  cases lg
  · have E : fullB false n zs = decide (4194304 - (zs.length : Int) < n) := by unfold fullB; rw [Bool.false_or]
    rw [E]; clear E
    go_enter Try.func67, Try.ntmps67
    go_wp2
    go_ret
    exact ⟨rfl, rfl⟩
  · have E : fullB true n zs = true := by unfold fullB; rw [Bool.true_or]
    rw [E]; clear E
    go_enter Try.func67, Try.ntmps67
    go_wp2
    go_ret
    exact ⟨rfl, rfl⟩
/-- what a writer's call may touch: the writer and its row -/
def WrF (X : Nat) (v : Value) : Nat → Prop := fun b => b = X ∨ v.ownBlock = some b
/-- where the row goes on -/
def RowOn (w : World) (v v' : Value) : Prop := ∀ g, v'.ownBlock = some g → v.ownBlock = some g ∨ w.heap.size ≤ g
end Go.Proofs.Ytahdmajppnffeaa
namespace Go.Proofs.Ytahdmajppnffeaa
open Go.RowKit
open Sha Tal
theorem RowAt.other {w : World} {a : Option Addr} {zs : List Int} {p : Addr} {u : Value} (h : RowAt w a zs) (hne : zs = [] ∨ ∀ x, a = some x → x.block ≠ p.block) : RowAt (w.setCell p u) a zs := by
  refine ⟨h.1, h.2.1, ?_⟩
  rcases h.2.2 with h0 | ⟨b, off, rfl, h1, h2⟩
  · exact .inl h0
  · rcases hne with h0 | hne
    · exact .inl h0
    · exact .inr ⟨b, off, rfl, by simpa [World.setCell] using h1, range_at h2 (Below.heap_setCell _ _ _ _ (hne _ rfl))⟩
/-- what the writer has behind a piece -/
def wrL (zs bs : List Int) (b : Bool) : List Int := if b then zs else zs ++ bs
theorem wrL_t (zs bs : List Int) : wrL zs bs true = zs := rfl
theorem wrL_f (zs bs : List Int) : wrL zs bs false = zs ++ bs := rfl
theorem wrL_len {zs bs : List Int} {lg : Bool} (h : zs.length ≤ 4194304) : (wrL zs bs (fullB lg bs.length zs)).length ≤ 4194304 := by
  cases hf : fullB lg bs.length zs
  · unfold fullB at hf
    rw [Bool.or_eq_false_iff] at hf
    have := of_decide_eq_false hf.2
    rw [wrL_f, List.length_append]
    omega
  · exact h
/-- the row is laid anew -/
theorem WrAt.row {w w' : World} {X : Nat} {v v' : Value} {zs zs' : List Int} {lg : Bool} (h : WrAt w X v zs lg) (hg : w.grownBy w' v.ownBlock) (hn : Mine w' (X + 1) v' zs') : WrAt (w'.setCell ⟨X, 0, none⟩ v') X v' zs' lg := by
  have hX : w'.heap[X]? = w.heap[X]? := hg.block X h.lt (fun e => by have := (h.me.from X e.symm).1; omega)
  have cc : ∀ i, w'.cell? ⟨X, i, none⟩ = w.cell? ⟨X, i, none⟩ := fun i => by simp [World.cell?, hX]
  refine ⟨by have := h.lt; have := hg.size; simp [World.setCell]; omega, World.cell?_setCell_same (h := (cc 0).trans h.c0) .., ?_, ?_, ?_⟩
  · exact (World.cell?_setCell_other (w := w') (h := (by simp)) ..).trans ((cc 1).trans h.c1)
  · exact there_set (fun j hj => by
      have := h.th j hj
      rw [Nat.zero_add] at this ⊢
      exact ⟨by rw [cc]; exact this.1, (World.frozen?_of_block hX).trans this.2⟩) _ _
  · exact hn.far (fun g hg => Below.heap_setCell _ _ _ _ (by have := (hn.from g hg).1; show g ≠ X; omega))
set_option maxRecDepth 100000 in
set_option maxHeartbeats 2000000 in
theorem raw13_any (X : Nat) (v : Value) (zs : List Int) (lg : Bool) (a : Option Addr) (cap : Nat) (bs : List Int) (w : World) (h : WrAt w X v zs lg) (hr : RowAt w a bs) (hne : bs = [] ∨ ∀ x, a = some x → x.block ≠ X) (hm : zs.length ≤ 4194304) :
    Calls Try.prog 31 #[.pointer (some ⟨X, 0, none⟩), .slice a bs.length cap] w fun e w' => ∃ v', e = .returned (.tuple #[]) ∧ WrAt w' X v' (wrL zs bs (fullB lg bs.length zs)) (fullB lg bs.length zs) ∧ Off (WrF X v) w w' ∧ RowOn w v v' := by
  obtain ⟨i0, hi, hz0, hz1, hz2⟩ := info_parts info8
  have cr := room13_any X v zs lg bs.length w h hm
  have h1 := h.flag (fullB lg bs.length zs)
  have hO1 : Off (WrF X v) w (w.setCell ⟨X, 1, none⟩ (.bool (fullB lg bs.length zs))) := Off.of_setCell w _ _ (.inl rfl)
  have hr1 : RowAt (w.setCell ⟨X, 1, none⟩ (.bool (fullB lg bs.length zs))) a bs := hr.other hne
  have hsz : (w.setCell ⟨X, 1, none⟩ (.bool (fullB lg bs.length zs))).heap.size = w.heap.size := by simp [World.setCell]
  have hfl : fullB lg bs.length zs = false → zs.length + bs.length ≤ 4194304 := fun hf => by
    unfold fullB at hf
    rw [Bool.or_eq_false_iff] at hf
    have := of_decide_eq_false hf.2
    omega
  cases hf : fullB lg bs.length zs
  · rw [hf] at cr h1 hO1 hr1 hsz
    simp only [Bool.not_false] at cr
    have hl := hfl hf
    clear hf hfl
    rw [wrL_f]
    have f0 := h1.f0
    have c0 := h1.c0
    obtain ⟨w1, hw1⟩ : ∃ w1, w.setCell ⟨X, 1, none⟩ (.bool false) = w1 := ⟨_, rfl⟩
    rw [hw1] at cr h1 hO1 hr1 hsz f0 c0
    go_enter Try.func31, Try.ntmps31
    go_wp2_with fail
    refine cr.mono ?_
    rintro e1 w1' ⟨rfl, rfl⟩
    go_wp2_with (at_builtin; refine wpList_append_own_src2 _ rfl _ _ 57 57 rfl (X + 1) 5 i0 (.int .u8 0) 1 1 Try.underlying57 hi hz0 hz1 hz2 rfl _ zs.length _ rfl h1.me.1 _ bs.length _ rfl (hr1.src cap) ?c1 ?c2 ?c3 ?_)
    case c1 => unfold maxLen; omega
    case c2 => omega
    case c3 => have := h1.lt; omega
    intro v2 w2 hown hgr hon
    have hM : Mine w2 (X + 1) v2 (zs ++ bs) := Mine.mk' _ hown (by simp) (by simp [v8]) (fun z hz => by
      rcases List.mem_append.1 hz with hz | hz
      · exact h1.me.2 z hz
      · exact hr.2.1 z hz)
    have h2 := h1.row hgr hM
    have hX2 : w2.heap[X]? = w1'.heap[X]? := hgr.block X h1.lt (fun e => by have := (h1.me.from X e.symm).1; omega)
    have c2 : w2.cell? ⟨X, 0, none⟩ = some v := by rw [← c0]; simp [World.cell?, hX2]
    have f2 : w2.frozen? ⟨X, 0, none⟩ = false := (World.frozen?_of_block hX2).trans f0
    have hO2 : Off (WrF X v) w (w2.setCell ⟨X, 0, none⟩ v2) := hO1.trans ((Off.of_grown (F := WrF X v) hgr (fun k hk => .inr hk)).trans (Off.of_setCell (F := WrF X v) w2 _ _ (.inl rfl)) (fun _ _ q => q)) (fun _ _ q => q)
    have hon' : RowOn w v v2 := fun g hg => (hon g hg).imp id (fun e => by omega)
    obtain ⟨a2, cap2, rfl, _, _, _⟩ := hM.rowAt (by rw [List.length_append]; unfold maxLen; omega)
    rw [List.length_append] at h2 hO2 hon'
    clear hown hgr hon hM c0 f0 cr h h1
    go_wp2_with fail
    go_end0
    exact ⟨_, rfl, h2, hO2, hon'⟩
  · rw [hf] at cr h1 hO1 hr1 hsz
    simp only [Bool.not_true] at cr
    clear hf hfl
    rw [wrL_t]
    obtain ⟨w1, hw1⟩ : ∃ w1, w.setCell ⟨X, 1, none⟩ (.bool true) = w1 := ⟨_, rfl⟩
    rw [hw1] at cr h1 hO1
    go_enter Try.func31, Try.ntmps31
    go_wp2_with fail
    refine cr.mono ?_
    rintro e1 w1' ⟨rfl, rfl⟩
    go_wp2_with fail
    go_end0
    exact ⟨v, rfl, h1, hO1, fun g hg => .inl hg⟩
end Go.Proofs.Ytahdmajppnffeaa
namespace Go.Proofs.Ytahdmajppnffeaa
open Go.RowKit
open Sha Tal
theorem wr_trans {X : Nat} {v v1 v2 : Value} {w w1 w2 : World} (h : Off (WrF X v) w w1) (r : RowOn w v v1) (h' : Off (WrF X v1) w1 w2) (r' : RowOn w1 v1 v2) : Off (WrF X v) w w2 ∧ RowOn w v v2 := by
  refine ⟨h.trans h' (fun b hb hf => ?_), fun g hg => ?_⟩
  · rcases hf with hf | hf
    · exact .inl hf
    · rcases r b hf with e | e
      · exact .inr e
      · omega
  · rcases r' g hg with e | e
    · exact r g e
    · exact .inr (Nat.le_trans h.size e)
theorem WrAt.below {w w' : World} {X : Nat} {v : Value} {zs : List Int} {lg : Bool} (h : WrAt w X v zs lg) (hb : Below w.heap.size w w') : WrAt w' X v zs lg :=
  ⟨Nat.lt_of_lt_of_le h.lt hb.size, (hb.cell (p := ⟨X, 0, none⟩) h.lt).trans h.c0, (hb.cell (p := ⟨X, 1, none⟩) h.lt).trans h.c1, there_below h.th hb h.lt, h.me.below hb⟩
theorem Mine.fresh {w : World} {B : Nat} {a : Option Addr} {n cap : Nat} {zs : List Int} (h : Mine w B (.slice a n cap) zs) (x : Addr) (hx : a = some x) : B ≤ x.block := by
  rcases own_range h.1 with ⟨e, _⟩ | ⟨g, cap', e, hB, _⟩
  · injection e with e1; rw [e1] at hx; cases hx
  · injection e with e1; rw [e1] at hx; cases hx; exact hB
/-- a piece is written -/
def wrS (s : List Int × Bool) (bs : List Int) : List Int × Bool := (wrL s.1 bs (fullB s.2 bs.length s.1), fullB s.2 bs.length s.1)
def wrN (s : List Int × Bool) (ns : List Int) : List Int × Bool := ns.foldl (fun s n => wrS s (putL n)) s
theorem wr_len {s : List Int × Bool} (bs : List Int) (h : s.1.length ≤ 4194304) : (wrS s bs).1.length ≤ 4194304 := wrL_len h
theorem wrN_len (ns : List Int) : ∀ s : List Int × Bool, s.1.length ≤ 4194304 → (wrN s ns).1.length ≤ 4194304 := by
  induction ns with
  | nil => intro s h; exact h
  | cons n r ih => intro s h; exact ih _ (wr_len _ h)
theorem wrN_take (ns : List Int) (s : List Int × Bool) (k : Nat) (hk : k < ns.length) : wrN s (ns.take (k + 1)) = wrS (wrN s (ns.take k)) (putL (ns.getD k 0)) := by
  unfold wrN
  have : ns.take (k + 1) = ns.take k ++ [ns.getD k 0] := by
    rw [List.take_add_one]; simp [List.getElem?_eq_getElem hk, List.getD_eq_getElem?_getD]
  rw [this, List.foldl_append]; rfl
set_option maxRecDepth 100000 in
set_option maxHeartbeats 2000000 in
theorem nums13_any (X : Nat) (v : Value) (s : List Int × Bool) (b off cap : Nat) (ns : List Int) (w : World) (h : WrAt w X v s.1 s.2) (hl : ns.length ≤ 1000) (hn : ∀ n ∈ ns, n ≤ 9223372036854775807) (hb : b < w.heap.size) (hr : w.rangeAt b off (ns.map (Value.int .i64))) (hne : ¬ WrF X v b) (hm : s.1.length ≤ 4194304) :
    Calls Try.prog 25 #[.pointer (some ⟨X, 0, none⟩), .slice (some ⟨b, off, none⟩) ns.length cap] w fun e w' => ∃ v', e = .returned (.tuple #[]) ∧ WrAt w' X v' (wrN s ns).1 (wrN s ns).2 ∧ Off (WrF X v) w w' ∧ RowOn w v v' := by
  go_enter Try.func25, Try.ntmps25
  go_wp2_with fail
  go_loopw [8] (fun iv wr' => ∃ k : Nat, k ≤ ns.length ∧ iv = .int .i64 (k : Int) ∧ Hid (∃ v', WrAt wr' X v' (wrN s (ns.take k)).1 (wrN s (ns.take k)).2 ∧ Off (WrF X v) w wr' ∧ RowOn w v v')) (fun iv _ => ns.length - (intOf iv).toNat)
  case atStart => exact ⟨0, by omega, rfl, hide ⟨v, h, Off.refl _ _, fun g hg => .inl hg⟩⟩
  case round =>
    obtain ⟨k, hk, rfl, HK⟩ := hrel
    by_cases hlt : k < ns.length
    · have k1 : (k : Int) < ns.length := by omega
      obtain ⟨v1, hW, hO, hRo⟩ := HK.out
      clear HK
      have hrow : wr.heap[b]? = w.heap[b]? := hO.2 b hb hne
      have ck : wr.cell? ⟨b, off + k, none⟩ = some (.int .i64 (ns.getD k 0)) := by
        have := range_at hr hrow k (.int .i64 (ns.getD k 0)) (by simp [List.getElem?_eq_getElem hlt])
        exact this
      have hnk : ns.getD k 0 ≤ 9223372036854775807 := hn _ (by simp [List.getElem?_eq_getElem hlt])
      have HS := hide (wrN_take ns s k hlt)
      have hbl := putL_length (ns.getD k 0) (by omega)
      have hlen := wrN_len (ns.take k) s hm
      have cp := put_any none 0 [] (ns.getD k 0) wr (nil_row wr) (by simp) hnk
      rw [List.nil_append] at cp
      obtain ⟨n, hnn⟩ : ∃ n, Hid (ns.getD k 0 = n) := ⟨_, hide rfl⟩
      rw [hnn.out] at ck cp HS hnk hbl
      obtain ⟨bs, hbs⟩ : ∃ bs, Hid (putL n = bs) := ⟨_, hide rfl⟩
      rw [hbs.out] at cp HS hbl
      obtain ⟨t, ht⟩ : ∃ t, Hid (wrN s (ns.take k) = t) := ⟨_, hide rfl⟩
      rw [ht.out] at hW hlen HS
      clear hnn hbs ht hr hrow
      go_wp2_with fail
      refine cp.mono ?_
      rintro e1 w1 ⟨v2, rfl, hM, hB⟩
      obtain ⟨a2, cap2, rfl, _, _, hrw⟩ := hM.rowAt (by unfold maxLen; omega)
      have hMf := hM.fresh
      have hW1 := hW.below hB
      have cr := raw13_any X v1 t.1 t.2 a2 cap2 bs w1 hW1 hrw (.inr (fun x hx => by have := hMf x hx; have := hW.lt; omega)) hlen
      have hO1 := hO.below_r hB
      clear hM hMf hW1 hW hB hO cp hrw ck
      go_wp2_with fail
      refine cr.mono ?_
      rintro e2 w2 ⟨v3, rfl, hW2, hO2, hR2⟩
      have T := wr_trans hO1 hRo hO2 hR2
      clear cr hO2 hR2 hO1 hRo
      have T' := hide (And.intro hW2 T)
      clear hW2 T
      go_wp2
      go_roundw
      case rel =>
        refine ⟨k + 1, by omega, by go_num, hide ⟨v3, ?_, T'.out.2.1, T'.out.2.2⟩⟩
        rw [HS.out]
        exact T'.out.1
      case measure => simp [intOf]; omega
    · obtain rfl : k = ns.length := by omega
      go_wp2
      go_end0
      obtain ⟨v1, hW, hO, hRo⟩ := HK.out
      rw [List.take_length] at hW
      exact ⟨v1, rfl, hW, hO, hRo⟩
end Go.Proofs.Ytahdmajppnffeaa
namespace Go.Proofs.Ytahdmajppnffeaa
open Go.RowKit
open Sha Tal
structure Vt.ok (x : Vt) : Prop where
  k : x.k ≤ 9223372036854775807
  e : x.e ≤ 9223372036854775807
  v : x.v ≤ 9223372036854775807
  s : x.s ≤ 9223372036854775807
  dl : x.d.length = 32
  db : ∀ z ∈ x.d, 0 ≤ z ∧ z < 256
theorem Vt.ok.len {x : Vt} (h : x.ok) : x.cells.length = 36 := by
  have := h.dl
  simp [Vt.cells, v8]
  omega
theorem Vt.one (x : Vt) : ∀ v ∈ x.cells, v.oneCell' = true := by
  intro v hv
  simp only [Vt.cells, List.mem_cons] at hv
  rcases hv with rfl | rfl | rfl | rfl | hv
  · rfl
  · rfl
  · rfl
  · rfl
  · exact v8_one x.d v hv
/-- a vote with nothing in it -/
def Vt.zero : Vt := ⟨0, 0, 0, 0, List.replicate 32 0⟩
theorem Vt.zero_ok : Vt.zero.ok := ⟨by decide, by decide, by decide, by decide, by decide, by decide⟩
/-- a message: kind, epoch, leader, view, slot, batch, vote, change, news, digest, cert, state, signs; lists as they are handed about -/
structure Ms where
  k : Int
  e : Int
  l : Int
  v : Int
  s : Int
  q : Bool
  rs : Value
  vt : Vt
  ce : Int
  cl : Int
  cv : Int
  he : Value
  ne : Value
  d : List Int
  ct : Vt
  cs : Value
  st : ByteArray
  sg : Value
def Ms.cells (m : Ms) : List Value := [.int .i64 m.k, .int .i64 m.e, .int .i64 m.l, .int .i64 m.v, .int .i64 m.s, .bool m.q, m.rs] ++ (m.vt.cells ++ ([.int .i64 m.ce, .int .i64 m.cl, .int .i64 m.cv, m.he, m.ne] ++ (v8 m.d ++ (m.ct.cells ++ [m.cs, .string m.st, m.sg]))))
structure Ms.ok (m : Ms) : Prop where
  vt : m.vt.ok
  ct : m.ct.ok
  dl : m.d.length = 32
  db : ∀ z ∈ m.d, 0 ≤ z ∧ z < 256
  rs : m.rs.oneCell' = true
  he : m.he.oneCell' = true
  ne : m.ne.oneCell' = true
  cs : m.cs.oneCell' = true
  sg : m.sg.oneCell' = true
theorem Ms.ok.len {m : Ms} (h : m.ok) : m.cells.length = 119 := by
  have h1 := h.vt.len
  have h2 := h.ct.len
  have h3 := h.dl
  simp only [Ms.cells, List.length_append, List.length_cons, List.length_nil, v8_length]
  omega
theorem Ms.ok.one {m : Ms} (h : m.ok) : ∀ v ∈ m.cells, v.oneCell' = true := by
  intro v hv
  simp only [Ms.cells, List.mem_append, List.mem_cons, List.not_mem_nil, or_false] at hv
  rcases hv with (rfl | rfl | rfl | rfl | rfl | rfl | rfl) | hv | (rfl | rfl | rfl | rfl | rfl) | hv | hv | (rfl | rfl | rfl)
  all_goals first | rfl | exact h.rs | exact h.he | exact h.ne | exact h.cs | exact h.sg | exact Vt.one _ _ hv | exact v8_one _ _ hv
/-- where a message's parts lie -/
structure Ms.at (m : Ms) (w : World) (b : Nat) : Prop where
  k : w.cell? ⟨b, 0, none⟩ = some (.int .i64 m.k)
  e : w.cell? ⟨b, 1, none⟩ = some (.int .i64 m.e)
  l : w.cell? ⟨b, 2, none⟩ = some (.int .i64 m.l)
  v : w.cell? ⟨b, 3, none⟩ = some (.int .i64 m.v)
  s : w.cell? ⟨b, 4, none⟩ = some (.int .i64 m.s)
  q : w.cell? ⟨b, 5, none⟩ = some (.bool m.q)
  rs : w.cell? ⟨b, 6, none⟩ = some m.rs
  vt : w.rangeAt b 7 m.vt.cells
  ce : w.cell? ⟨b, 43, none⟩ = some (.int .i64 m.ce)
  cl : w.cell? ⟨b, 44, none⟩ = some (.int .i64 m.cl)
  cv : w.cell? ⟨b, 45, none⟩ = some (.int .i64 m.cv)
  he : w.cell? ⟨b, 46, none⟩ = some m.he
  ne : w.cell? ⟨b, 47, none⟩ = some m.ne
  d : w.rangeAt b 48 (v8 m.d)
  ct : w.rangeAt b 80 (m.ct.cells ++ [m.cs])
  st : w.cell? ⟨b, 117, none⟩ = some (.string m.st)
  sg : w.cell? ⟨b, 118, none⟩ = some m.sg
theorem Ms.ok.at {m : Ms} (h : m.ok) {w : World} {b : Nat} (hr : w.rangeAt b 0 m.cells) : m.at w b := by
  have h1 := h.vt.len
  have h2 := h.ct.len
  have h3 := h.dl
  have a0 := range_left hr
  have a1 := range_right hr
  have b0 := range_left a1
  have b1 := range_right a1
  have c0 := range_left b1
  have c1 := range_right b1
  have d0 := range_left c1
  have d1 := range_right c1
  have e0 := range_left d1
  have e1 := range_right d1
  simp only [List.length_cons, List.length_nil, v8_length, h1, h2, h3, Nat.zero_add, Nat.reduceAdd] at b0 c0 d0 e0 e1
  refine ⟨a0 0 _ rfl, a0 1 _ rfl, a0 2 _ rfl, a0 3 _ rfl, a0 4 _ rfl, a0 5 _ rfl, a0 6 _ rfl, b0, c0 0 _ rfl, c0 1 _ rfl, c0 2 _ rfl, c0 3 _ rfl, c0 4 _ rfl, d0, ?_, e1 1 _ rfl, e1 2 _ rfl⟩
  refine range_join e0 ?_
  rw [h2]
  intro j v hv
  match j, hv with
  | 0, hv => cases hv; exact e1 0 _ rfl
theorem Ms.box {m : Ms} (h : m.ok) (w : World) : m.at (w.alloc (.cells m.cells.toArray 37)) w.heap.size := h.at (by
  have := range_new w m.cells.toArray 37
  simpa using this)
theorem Ms.at.below {m : Ms} {w w' : World} {b : Nat} (h : m.at w b) (hb : b < w.heap.size) (hB : Below w.heap.size w w') : m.at w' b := by
  have c : ∀ i v, w.cell? ⟨b, i, none⟩ = some v → w'.cell? ⟨b, i, none⟩ = some v := fun i v hv => (hB.cell (p := ⟨b, i, none⟩) hb).trans hv
  exact ⟨c _ _ h.k, c _ _ h.e, c _ _ h.l, c _ _ h.v, c _ _ h.s, c _ _ h.q, c _ _ h.rs, range_below h.vt hB hb, c _ _ h.ce, c _ _ h.cl, c _ _ h.cv, c _ _ h.he, c _ _ h.ne, range_below h.d hB hb, range_below h.ct hB hb, c _ _ h.st, c _ _ h.sg⟩
end Go.Proofs.Ytahdmajppnffeaa
namespace Go.Proofs.Ytahdmajppnffeaa
open Go.RowKit
open Sha Tal
set_option maxRecDepth 100000 in
set_option maxHeartbeats 2000000 in
theorem wvote_any (X : Nat) (v : Value) (s : List Int × Bool) (x : Vt) (w : World) (hx : x.ok) (h : WrAt w X v s.1 s.2) (hm : s.1.length ≤ 4194304) :
    Calls Try.prog 27 #[.pointer (some ⟨X, 0, none⟩), .agg x.cells.toArray] w fun e w' => ∃ v', e = .returned (.tuple #[]) ∧ WrAt w' X v' (wrS (wrN s [x.k, x.e, x.v, x.s]) x.d).1 (wrS (wrN s [x.k, x.e, x.v, x.s]) x.d).2 ∧ Off (WrF X v) w w' ∧ RowOn w v v' := by
  obtain ⟨k, ep, vi, sl, d⟩ := x
  have hB1 : Below w.heap.size w (w.alloc (.cells (Vt.mk k ep vi sl d).cells.toArray 28)) := (Below.refl _ _).alloc (Nat.le_refl _) _
  have hR1 := Vt.box w ⟨k, ep, vi, sl, d⟩
  obtain ⟨c0, c1, c2, c3⟩ := Vt.four hR1
  simp only [Nat.zero_add] at c1 c2 c3
  have hd : (w.alloc (.cells (Vt.mk k ep vi sl d).cells.toArray 28)).rangeAt w.heap.size 4 (v8 d) := fun j u hj => by
    have := hR1 (4 + j) u (by rw [Nat.add_comm]; exact hj)
    rwa [Nat.zero_add] at this
  have hsz : (w.alloc (.cells (Vt.mk k ep vi sl d).cells.toArray 28)).heap.size ≥ w.heap.size + 1 := by simp
  clear hR1
  generalize (Vt.mk k ep vi sl d).cells = q at *
  show Calls Try.prog 27 _ w fun e w' => ∃ v', e = .returned (.tuple #[]) ∧ WrAt w' X v' (wrS (wrN s [k, ep, vi, sl]) d).1 (wrS (wrN s [k, ep, vi, sl]) d).2 ∧ Off (WrF X v) w w' ∧ RowOn w v v'
  have hl2 := wrN_len [k, ep, vi, sl] s hm
  obtain ⟨t, ht⟩ : ∃ t, Hid (wrN s [k, ep, vi, sl] = t) := ⟨_, hide rfl⟩
  rw [ht.out] at hl2 ⊢
  go_enter Try.func27, Try.ntmps27
  go_upto_region 1 with fail
  go_name_world w1 hw1
  rw [show w.alloc (.cells q.toArray 28) = w1 from hw1] at hB1 c0 c1 c2 c3 hd hsz
  clear hw1
  have hX := h.lt
  have hown := h.me.from
  have h1 := h.below hB1
  have hB2 : Below w1.heap.size w1 (w1.alloc (.cells #[.int .i64 k, .int .i64 ep, .int .i64 vi, .int .i64 sl] 3)) := (Below.refl _ _).alloc (Nat.le_refl _) _
  have hR2 : (w1.alloc (.cells #[.int .i64 k, .int .i64 ep, .int .i64 vi, .int .i64 sl] 3)).rangeAt w1.heap.size 0 ([k, ep, vi, sl].map (Value.int .i64)) := by
    have := range_new w1 #[.int .i64 k, .int .i64 ep, .int .i64 vi, .int .i64 sl] 3
    simpa using this
  have hsz2 : (w1.alloc (.cells #[.int .i64 k, .int .i64 ep, .int .i64 vi, .int .i64 sl] 3)).heap.size ≥ w1.heap.size + 1 := by simp
  have h2 := h1.below hB2
  have hd2 := range_below hd hB2 (by omega)
  have cn := nums13_any X v s w1.heap.size 0 4 [k, ep, vi, sl] _ h2 (by simp) (by
    intro n hn
    simp only [List.mem_cons, List.not_mem_nil, or_false] at hn
    rcases hn with rfl | rfl | rfl | rfl
    · exact hx.k
    · exact hx.e
    · exact hx.v
    · exact hx.s) (by omega) hR2 (fun hf => by
    rcases hf with hf | hf
    · omega
    · have := (hown _ hf).2; omega) hm
  have hO0 : Off (WrF X v) w (w1.alloc (.cells #[.int .i64 k, .int .i64 ep, .int .i64 vi, .int .i64 sl] 3)) := Off.of_below (hB1.trans (hB2.mono (by omega)))
  have hdl : d.length = 32 := hx.dl
  have hdb : ∀ z ∈ d, 0 ≤ z ∧ z < 256 := hx.db
  clear hR2 h1 h h2 hd hx
  simp only [List.length_cons, List.length_nil, Nat.zero_add, Nat.reduceAdd] at cn
  rw [ht.out] at cn
  clear ht
  go_wp2_with fail
  obtain ⟨w2, hw2⟩ : ∃ w2, w1.alloc (.cells #[.int .i64 k, .int .i64 ep, .int .i64 vi, .int .i64 sl] 3) = w2 := ⟨_, rfl⟩
  rw [hw2] at hd2 cn hO0 hsz2 ⊢
  clear hw2 hB1 hB2
  refine cn.mono ?_
  rintro e3 w3 ⟨v3, rfl, hW3, hO3, hr3⟩
  have hd3 : w3.rangeAt w.heap.size 4 (v8 d) := range_at hd2 (hO3.2 _ (by omega) (fun hf => by
    rcases hf with hf | hf
    · omega
    · have := (hown _ hf).2; omega))
  have hs3 := hO3.size
  have hrow : RowAt w3 (some ⟨w.heap.size, 4, none⟩) d := ⟨by rw [hdl]; decide, hdb, .inr ⟨_, _, rfl, by omega, hd3⟩⟩
  have cr := raw13_any X v3 t.1 t.2 (some ⟨w.heap.size, 4, none⟩) 32 d w3 hW3 hrow (.inr (fun x hx => by cases hx; show w.heap.size ≠ X; omega)) hl2
  rw [show d.length = 32 from hdl] at cr
  have E : ((fullB t.2 ((32 : Nat) : Int) t.1)) = (fullB t.2 d.length t.1) := by rw [show d.length = 32 from hdl]
  rw [E] at cr
  clear E
  have T0 := wr_trans hO0 (fun g hg => .inl hg) hO3 hr3
  clear cn hd2 hd3 hrow hO3 hr3 hO0 c0 c1 c2 c3
  go_wp2_with fail
  refine cr.mono ?_
  rintro e4 w4 ⟨v4, rfl, hW4, hO4, hr4⟩
  have T := wr_trans T0.1 T0.2 hO4 hr4
  clear cr
  go_wp2_with fail
  go_end0
  exact ⟨v4, rfl, hW4, T.1, T.2⟩
end Go.Proofs.Ytahdmajppnffeaa
namespace Go.Proofs.Ytahdmajppnffeaa
open Go.RowKit
open Sha Tal
theorem iszV : (Try.prog.info? 28).map (·.size) = some 36 := by kernel_rfl
theorem iszM : (Try.prog.info? 37).map (·.size) = some 119 := by kernel_rfl
/-- numbers that were just laid -/
theorem nums_new (X : Nat) (v : Value) (s : List Int × Bool) (ns : List Int) (arr : Array Value) (n : Nat) (w : World) (h : WrAt w X v s.1 s.2) (ha : arr = (ns.map (Value.int .i64)).toArray) (hc : ns.length = n) (hl : n ≤ 10) (hn : ∀ n ∈ ns, n ≤ 9223372036854775807) (hm : s.1.length ≤ 4194304) :
    Calls Try.prog 25 #[.pointer (some ⟨X, 0, none⟩), .slice (some ⟨w.heap.size, 0, none⟩) n n] (w.alloc (.cells arr 3)) fun e w' => ∃ v', e = .returned (.tuple #[]) ∧ WrAt w' X v' (wrN s ns).1 (wrN s ns).2 ∧ Off (WrF X v) w w' ∧ RowOn w v v' := by
  subst ha hc
  have hB : Below w.heap.size w (w.alloc (.cells (ns.map (Value.int .i64)).toArray 3)) := (Below.refl _ _).alloc (Nat.le_refl _) _
  have hR : (w.alloc (.cells (ns.map (Value.int .i64)).toArray 3)).rangeAt w.heap.size 0 (ns.map (Value.int .i64)) := by
    have := range_new w (ns.map (Value.int .i64)).toArray 3
    simpa using this
  have hX := h.lt
  have hown := h.me.from
  refine (nums13_any X v s w.heap.size 0 ns.length ns _ (h.below hB) (by omega) hn (by simp) hR (fun hf => by
    rcases hf with hf | hf
    · omega
    · have := (hown _ hf).2; omega) hm).mono ?_
  rintro e w' ⟨v', rfl, h1, h2, h3⟩
  have T := wr_trans (Off.of_below hB) (fun g hg => .inl hg) h2 h3
  exact ⟨v', rfl, h1, T.1, T.2⟩
theorem one_le {n : Int} (h : n ≤ 9223372036854775807) : ∀ z ∈ [n], z ≤ 9223372036854775807 := by
  intro z hz; rw [List.mem_singleton.1 hz]; exact h
theorem two_le {n m : Int} (h : n ≤ 9223372036854775807) (h' : m ≤ 9223372036854775807) : ∀ z ∈ [n, m], z ≤ 9223372036854775807 := by
  intro z hz
  simp only [List.mem_cons, List.not_mem_nil, or_false] at hz
  rcases hz with rfl | rfl
  · exact h
  · exact h'
/-- a block that the writer leaves alone -/
theorem wr_off {X : Nat} {v : Value} {w w1 w2 : World} {zs : List Int} {lg : Bool} (h : WrAt w X v zs lg) (hs : w.heap.size < w1.heap.size) (hO : Off (WrF X v) w1 w2) : w2.heap[w.heap.size]? = w1.heap[w.heap.size]? :=
  hO.2 _ hs (fun hf => by
    rcases hf with hf | hf
    · have := h.lt; omega
    · have := (h.me.from _ hf).2; omega)
set_option maxRecDepth 100000 in
set_option maxHeartbeats 2000000 in
theorem wmsg6 (X : Nat) (v : Value) (s : List Int × Bool) (m : Ms) (w : World) (hm : m.ok) (hk : m.k = 6) (he : m.e ≤ 9223372036854775807) (he2 : m.s ≤ 9223372036854775807) (h : WrAt w X v s.1 s.2) (hs : s.1.length ≤ 4194304) :
    Calls Try.prog 13 #[.pointer (some ⟨X, 0, none⟩), .agg m.cells.toArray] w fun e w' => ∃ v', e = .returned (.tuple #[]) ∧ WrAt w' X v' (wrN (wrN s [6]) [m.e, m.s]).1 (wrN (wrN s [6]) [m.e, m.s]).2 ∧ Off (WrF X v) w w' ∧ RowOn w v v' := by
  have hB1 : Below w.heap.size w (w.alloc (.cells m.cells.toArray 37)) := (Below.refl _ _).alloc (Nat.le_refl _) _
  have hsz : w.heap.size < (w.alloc (.cells m.cells.toArray 37)).heap.size := by simp
  have hM := m.box hm w
  have ck := hM.k
  have ce := hM.e
  have cs := hM.s
  rw [hk] at ck
  have hl1 := wrN_len [6] s hs
  clear hk hm hM
  generalize m.s = sl at *
  generalize m.cells = q at *
  generalize m.e = ep at *
  obtain ⟨t, ht⟩ : ∃ t, Hid (wrN s [6] = t) := ⟨_, hide rfl⟩
  rw [ht.out] at hl1 ⊢
  go_enter Try.func13, Try.ntmps13
  go_upto_region 1 with fail
  go_name_world w1 hw1
  rw [show w.alloc (.cells q.toArray 37) = w1 from hw1] at hB1 ck ce cs hsz
  clear hw1
  have cn := nums_new X v s [6] #[.int .i64 6] 1 w1 (h.below hB1) rfl rfl (by omega) (one_le (by omega)) hs
  rw [ht.out] at cn
  clear ht
  go_wp2_with fail
  refine cn.mono ?_
  rintro e2 w2 ⟨v2, rfl, hW2, hO2, hr2⟩
  clear cn
  have hb2 := wr_off h hsz hO2
  have ck2 : w2.cell? ⟨w.heap.size, 0, none⟩ = some (.int .i64 6) := by rw [← ck]; simp [World.cell?, hb2]
  have ce2 : w2.cell? ⟨w.heap.size, 1, none⟩ = some (.int .i64 ep) := by rw [← ce]; simp [World.cell?, hb2]
  have cs2 : w2.cell? ⟨w.heap.size, 4, none⟩ = some (.int .i64 sl) := by rw [← cs]; simp [World.cell?, hb2]
  have T1 := wr_trans (Off.of_below (F := WrF X v) hB1) (fun g hg => .inl hg) hO2 hr2
  have cn2 := nums_new X v2 t [ep, sl] #[.int .i64 ep, .int .i64 sl] 2 w2 hW2 rfl rfl (by omega) (two_le he he2) hl1
  clear hb2 hO2 hr2 hB1 ck ce cs hsz hW2
  go_wp2_with fail
  refine cn2.mono ?_
  rintro e3 w3 ⟨v3, rfl, hW3, hO3, hr3⟩
  have T := wr_trans T1.1 T1.2 hO3 hr3
  clear cn2
  go_wp2_with fail
  go_end0
  exact ⟨v3, rfl, hW3, T.1, T.2⟩
end Go.Proofs.Ytahdmajppnffeaa
namespace Go.Proofs.Ytahdmajppnffeaa
open Go.RowKit
open Sha Tal
theorem wpList_build {P : Program} {ops : Array Oper} {rest : List Oper} {o : Oper} {a : Act} {w : World} {Q : Exit → Act → World → Prop} (hgd : o.guard = none) (t : TypeId) (parts : List (Nat × Operand)) (ho : o.op = .build t parts.toArray) (vs : List (Nat × Value)) (v : Value) (hv : (parts.map fun (x : Nat × Operand) => (x.1, a.eval x.2)) = vs)
    (hr : (Instr.build t vs.toArray).run P w = .ok v w) (h : wpList P ops Q rest (a.put o.dst v) w) : wpList P ops Q (o :: rest) a w := by
  refine wpList_plain hgd fun K hK => ?_
  unfold Oper.wp execOp
  subst hv
  have e : Array.map (fun (x : Nat × Operand) => (x.1, a.eval x.2)) parts.toArray = (parts.map fun (x : Nat × Operand) => (x.1, a.eval x.2)).toArray := by simp
  simp only [ho]
  rw [show (Instr.build t (Array.map (fun x => match x with | (i, x) => (i, a.eval x)) parts.toArray)) = Instr.build t (parts.map fun (x : Nat × Operand) => (x.1, a.eval x.2)).toArray from congrArg _ e]
  simp only [Sem.run_bind, hr, Result.andThen_ok, Sem.run_pure]
  exact hK _ _ h
/-- a message without lists -/
def Ms.plain (k e s : Int) (x : Vt) (d : List Int) : Ms := ⟨k, e, 0, 0, s, false, .slice none 0 0, x, 0, 0, 0, .slice none 0 0, .slice none 0 0, d, Vt.zero, .slice none 0 0, ⟨#[]⟩, .slice none 0 0⟩
def zeros32 : List Int := List.replicate 32 0
theorem zeros32_len : zeros32.length = 32 := by decide
theorem zeros32_byte : ∀ z ∈ zeros32, 0 ≤ z ∧ z < 256 := by decide
def Ms.zero : Ms := Ms.plain 0 0 0 Vt.zero zeros32
theorem Ms.plain_ok (k e s : Int) {x : Vt} {d : List Int} (hx : x.ok) (hd : d.length = 32) (hb : ∀ z ∈ d, 0 ≤ z ∧ z < 256) : (Ms.plain k e s x d).ok :=
  ⟨hx, Vt.zero_ok, hd, hb, rfl, rfl, rfl, rfl, rfl⟩
set_option maxRecDepth 100000 in
theorem zeroM (w : World) : (zeroValue 37).run Try.prog w = .ok (.agg Ms.zero.cells.toArray) w := by kernel_rfl
theorem fold_at (off : Nat) : ∀ (u : List Value) (k : Nat) (arr : Array Value), off + k + u.length ≤ arr.size → List.foldl (fun (cs : Array Value) (x : Value × Nat) => cs.setIfInBounds (off + x.snd) x.fst) arr (u.zipIdx k) = (arr.toList.take (off + k) ++ (u ++ arr.toList.drop (off + k + u.length))).toArray
  | [], k, arr, h => by simp
  | a :: u, k, arr, h => by
    simp only [List.length_cons] at h
    rw [List.zipIdx_cons, List.foldl_cons, fold_at off u (k + 1) _ (by simp; omega)]
    congr 1
    have hlt : off + k < arr.toList.length := by simp; omega
    rw [Array.toList_setIfInBounds]
    simp only [List.length_cons]
    rw [List.drop_set_of_lt (by omega), show off + (k + 1) + u.length = off + k + (u.length + 1) by omega, show off + (k + 1) = off + k + 1 by omega, List.take_succ_eq_append_getElem (by simpa using hlt), List.getElem_set_self, List.take_set_of_le (Nat.le_refl _)]
    simp
theorem fill_step {place : Nat → Option (Nat × Nat)} {i off n : Nat} {v : Value} {rest : List (Nat × Value)} {vs pre mid post : List Value} (hp : place i = some (off, n)) (hn : mid.length = n) (hpre : pre.length = off) (hv : v.cells = vs.toArray) (hl : vs.length = n) :
    Instr.fill place (pre ++ (mid ++ post)).toArray ((i, v) :: rest) = Instr.fill place (pre ++ (vs ++ post)).toArray rest := by
  subst hn hpre
  rw [Instr.fill, hp]
  simp only [hv, List.size_toArray, hl, ne_eq, not_true_eq_false, decide_false, Bool.false_or, List.length_append]
  rw [if_neg (by simp)]
  congr 1
  have := fold_at pre.length vs 0 (pre ++ (mid ++ post)).toArray (by simp; omega)
  simp only [Nat.add_zero] at this
  rw [show (vs.toArray.zipIdx.foldl (fun cs (x : Value × Nat) => cs.setIfInBounds (pre.length + x.2) x.1) (pre ++ (mid ++ post)).toArray) = List.foldl (fun (cs : Array Value) (x : Value × Nat) => cs.setIfInBounds (pre.length + x.snd) x.fst) (pre ++ (mid ++ post)).toArray (vs.zipIdx 0) by simp, this]
  congr 1
  rw [List.take_left, hl, ← List.append_assoc pre mid post, ← List.length_append, List.drop_left]
def placesM : Array (Nat × Nat) := #[(0, 1), (1, 1), (2, 1), (3, 1), (4, 1), (5, 2), (7, 36), (43, 4), (47, 1), (48, 32), (80, 37), (117, 1), (118, 1)]
set_option maxRecDepth 100000 in
theorem build_msg (parts : Array (Nat × Value)) (cs : List Value) (w : World) (h : Instr.fill (placesM[·]?) Ms.zero.cells.toArray parts.toList = some cs.toArray) : (Instr.build 37 parts).run Try.prog w = .ok (.agg cs.toArray) w := by
  have hp : (((Try.prog.fieldsOf 37).mapM fun f => do pure (f.offset, ← sizeOf f.type) : Sem (Array (Nat × Nat)))).run Try.prog w = .ok placesM w := by kernel_rfl
  have hu : Try.prog.underlying 37 = some (.struct (Try.prog.fieldsOf 37)) := by kernel_rfl
  unfold Instr.build
  simp only [Sem.run_bind, zeroM, Result.andThen_ok, run_underlying hu]
  rw [hp]
  simp only [Result.andThen_ok, Value.cells]
  rw [h]
  rfl
theorem build_kind (k : Int) (w : World) : (Instr.build 37 #[(0, .int .i64 k)]).run Try.prog w = .ok (.agg (Ms.plain k 0 0 Vt.zero zeros32).cells.toArray) w := by
  refine build_msg _ _ w ?_
  show Instr.fill (placesM[·]?) (([] : List Value) ++ ([Value.int .i64 0] ++ _)).toArray _ = _
  rw [fill_step (off := 0) (n := 1) (vs := [.int .i64 k]) rfl rfl rfl rfl rfl]
  rfl
theorem build_state (k e s : Int) (w : World) : (Instr.build 37 #[(0, .int .i64 k), (1, .int .i64 e), (4, .int .i64 s)]).run Try.prog w = .ok (.agg (Ms.plain k e s Vt.zero zeros32).cells.toArray) w := by
  refine build_msg _ _ w ?_
  show Instr.fill (placesM[·]?) (([] : List Value) ++ ([Value.int .i64 0] ++ _)).toArray _ = _
  rw [fill_step (off := 0) (n := 1) (vs := [.int .i64 k]) rfl rfl rfl rfl rfl]
  show Instr.fill (placesM[·]?) ([Value.int .i64 k] ++ ([Value.int .i64 0] ++ _)).toArray _ = _
  rw [fill_step (off := 1) (n := 1) (vs := [.int .i64 e]) rfl rfl rfl rfl rfl]
  show Instr.fill (placesM[·]?) ([Value.int .i64 k, .int .i64 e, .int .i64 0, .int .i64 0] ++ ([Value.int .i64 0] ++ _)).toArray _ = _
  rw [fill_step (off := 4) (n := 1) (vs := [.int .i64 s]) rfl rfl rfl rfl rfl]
  rfl
end Go.Proofs.Ytahdmajppnffeaa
namespace Go.Proofs.Ytahdmajppnffeaa
open Go.RowKit
open Sha Tal
theorem range_put {w : World} {b : Nat} {pre mid post vs : List Value} (h : w.rangeAt b 0 (pre ++ (mid ++ post))) (o : Nat) (ho : pre.length = o) (ht : w.there b o vs.length) (hl : vs.length = mid.length) : (w.setCells b o vs).rangeAt b 0 (pre ++ (vs ++ post)) := by
  subst ho
  have h1 := range_left h
  have h2 := range_right (range_right h)
  rw [Nat.zero_add] at h2
  refine range_join (World.rangeAt_setCells_apart h1 _ _ _ (.inr (.inl (by omega)))) (range_join ?_ ?_)
  · rw [Nat.zero_add]; exact World.rangeAt_setCells_same _ _ _ _ ht
  · rw [Nat.zero_add, hl]; exact World.rangeAt_setCells_apart h2 _ _ _ (.inr (.inr (by omega)))
/-- what a call of bare leaves -/
def BareOk (w : World) (q : List Value) : Ending → World → Prop := fun e w' => e = .returned (.agg q.toArray) ∧ Below w.heap.size w w'
/-- a message is boxed, and an answer's cell -/
theorem bare_box (q z : List Value) (w : World) (hz : z.length = 119) : ((w.alloc (.cells q.toArray 37)).alloc (.cells z.toArray 37)).rangeAt w.heap.size 0 q ∧ ((w.alloc (.cells q.toArray 37)).alloc (.cells z.toArray 37)).there (w.heap.size + 1) 0 119 ∧ Below w.heap.size w ((w.alloc (.cells q.toArray 37)).alloc (.cells z.toArray 37)) ∧ w.heap.size + 2 ≤ ((w.alloc (.cells q.toArray 37)).alloc (.cells z.toArray 37)).heap.size := by
  have hB : Below w.heap.size w (w.alloc (.cells q.toArray 37)) := (Below.refl _ _).alloc (Nat.le_refl _) _
  have hB2 : Below (w.alloc (.cells q.toArray 37)).heap.size (w.alloc (.cells q.toArray 37)) ((w.alloc (.cells q.toArray 37)).alloc (.cells z.toArray 37)) := (Below.refl _ _).alloc (Nat.le_refl _) _
  have h1 := range_new w q.toArray 37
  have h2 := there_new (w.alloc (.cells q.toArray 37)) z.toArray 37
  rw [show z.toArray.size = 119 by simpa using hz, World.size_alloc] at h2
  refine ⟨range_below (by simpa using h1) hB2 (by simp), h2, hB.trans (hB2.mono (by simp)), by simp⟩
set_option maxRecDepth 100000 in
set_option maxHeartbeats 2000000 in
theorem bare2 (x : Vt) (hx : x.ok) (w : World) : Calls Try.prog 23 #[.agg (Ms.plain 2 0 0 x zeros32).cells.toArray] w (BareOk w (Ms.plain 2 0 0 x zeros32).cells) := by
  have hm : (Ms.plain 2 0 0 x zeros32).ok := Ms.plain_ok 2 0 0 hx zeros32_len zeros32_byte
  have hk : (Ms.plain 2 0 0 Vt.zero zeros32).ok := Ms.plain_ok 2 0 0 Vt.zero_ok zeros32_len zeros32_byte
  have hz0 : Ms.zero.ok := Ms.plain_ok 0 0 0 Vt.zero_ok zeros32_len zeros32_byte
  have lm := hm.len
  have lk := hk.len
  have lz := hz0.len
  have lx := hx.len
  have om := all_oneCell_toArray hm.one
  have ok := all_oneCell_toArray hk.one
  have ox := all_oneCell_toArray x.one
  have hz := zeroM
  have hbk := build_kind 2
  have hat : ∀ (w' : World) b, w'.rangeAt b 0 (Ms.plain 2 0 0 x zeros32).cells → w'.cell? ⟨b, 0, none⟩ = some (.int .i64 2) ∧ w'.rangeAt b 7 x.cells := fun w' b h => ⟨(hm.at h).k, (hm.at h).vt⟩
  have hput : ∀ (w' : World) b, w'.rangeAt b 0 (Ms.plain 2 0 0 Vt.zero zeros32).cells → w'.there b 7 36 → (w'.setCells b 7 x.cells).rangeAt b 0 (Ms.plain 2 0 0 x zeros32).cells := fun w' b h ht => range_put (mid := Vt.zero.cells) h 7 rfl (by rw [lx]; exact ht) (by rw [lx, Vt.zero_ok.len])
  have im : (Try.prog.info? 37).map (·.size) = some (Ms.plain 2 0 0 x zeros32).cells.length := by rw [lm]; exact iszM
  have im' : (Try.prog.info? 37).map (·.size) = some (Ms.plain 2 0 0 x zeros32).cells.toArray.size := by rw [List.size_toArray, lm]; exact iszM
  have ik' : (Try.prog.info? 37).map (·.size) = some (Ms.plain 2 0 0 Vt.zero zeros32).cells.toArray.size := by rw [List.size_toArray, lk]; exact iszM
  have ix : (Try.prog.info? 28).map (·.size) = some x.cells.length := by rw [lx]; exact iszV
  have ix' : (Try.prog.info? 28).map (·.size) = some x.cells.toArray.size := by rw [List.size_toArray, lx]; exact iszV
  clear hm hk hz0 hx
  generalize (Ms.plain 2 0 0 x zeros32).cells = q at *
  generalize (Ms.plain 2 0 0 Vt.zero zeros32).cells = qk at *
  generalize Ms.zero.cells = z at *
  generalize x.cells = u at *
  obtain ⟨hA, hT, hB, hs⟩ := bare_box q z w lz
  go_enter Try.func23, Try.ntmps23
  go_upto_region 1 with fail
  go_name_world w1 hw1
  rw [show (w.alloc (.cells q.toArray 37)).alloc (.cells z.toArray 37) = w1 from hw1] at hA hT hB hs
  clear hw1
  have c0 := (hat _ _ hA).1
  obtain ⟨r2, hB2, hs2, hT2⟩ := fresh_store w1 z.toArray 37 qk (by rw [List.size_toArray, lz, lk])
  rw [show z.toArray.size = 119 by simpa using lz] at hT2
  have hTz : (w1.alloc (.cells z.toArray 37)).there w1.heap.size 0 qk.toArray.size := by
    have := there_new w1 z.toArray 37
    rw [show z.toArray.size = 119 by simpa using lz] at this
    rw [show qk.toArray.size = 119 by simpa using lk]
    exact this
  go_upto_region 2 with (first | (refine wpList_build rfl 37 [(0, .tmp 5)] rfl [(0, .int .i64 2)] _ rfl (hbk _) ?_) | refine wpList_store_mid rfl 37 _ _ rfl _ _ qk.toArray rfl rfl hTz ik' ok ?_)
  go_name_world w2 hw2
  rw [show (w1.alloc (.cells z.toArray 37)).setCells w1.heap.size 0 qk = w2 from hw2] at r2 hB2 hs2 hT2
  have hs2' : w1.heap.size < w2.heap.size := by omega
  clear hw2 hs2 hTz
  have hA2 := range_below hA hB2 (by omega)
  have hT1 := there_below hT hB2 (by omega)
  have hBw := hB.trans (hB2.mono (by omega))
  obtain ⟨c2, v2⟩ := hat _ _ hA2
  have hTv : w2.there w1.heap.size 7 u.toArray.size := by
    rw [show u.toArray.size = 36 by simpa using lx]
    have := there_part hT2 7 36 (by omega)
    rwa [Nat.zero_add] at this
  have r3 := hput _ _ r2 (by have := there_part hT2 7 36 (by omega); rwa [Nat.zero_add] at this)
  have hT3 : (w2.setCells w1.heap.size 7 u).there (w.heap.size + 1) 0 q.toArray.size := by
    rw [show q.toArray.size = 119 by simpa using lm]
    exact World.there_setCells hT1 _ _ _
  have hB3 := below_sets (show w.heap.size ≤ w1.heap.size by omega) u 7 _ hBw
  clear hA hT hB hB2 hA2 hT1 hBw c0 r2 hT2
  go_upto_region 20 with (first | (refine wpList_load_mid rfl 28 _ rfl _ _ rfl u _ v2 Try.underlying28 rfl ix ?_) | (refine wpList_store_mid rfl 28 _ _ rfl _ _ u.toArray rfl rfl hTv ix' ox ?_))
  go_name_world w3 hw3
  rw [show w2.setCells w1.heap.size 7 u = w3 from hw3] at r3 hT3 hB3
  clear hw3 hTv v2 c2
  have r4 := World.rangeAt_setCells_same w3 (w.heap.size + 1) 0 q (by have := hT3; rwa [List.size_toArray] at this)
  have hB4 := below_sets (show w.heap.size ≤ w.heap.size + 1 by omega) q 0 _ hB3
  have hrs := run_loadVar_mid (P := Try.prog) _ (w.heap.size + 1) 0 37 q _ r4 Try.underlying37 rfl im
  go_wp2_with (first | (refine wpList_load_mid rfl 37 _ rfl _ _ rfl q _ r3 Try.underlying37 rfl im ?_) | (refine wpList_store_mid rfl 37 _ _ rfl _ _ q.toArray rfl rfl hT3 im' om ?_))
  exact bodyPost_ret (v := .agg q.toArray) (by simp [results, Try.results23, asAddr, hrs, Act.put]) rfl ⟨rfl, hB4⟩
end Go.Proofs.Ytahdmajppnffeaa
namespace Go.Proofs.Ytahdmajppnffeaa
open Go.RowKit
open Sha Tal
theorem store_cell {P : Program} (w : World) (b o : Nat) (ty : TypeId) (v : Value) (ht : w.there b o 1) (hi : (P.info? ty).map (·.size) = some 1) (hv : v.cells = #[v]) (h1 : v.oneCell' = true) :
    (storeVar ty ⟨b, o, none⟩ v).run P w = .ok () (w.setCells b o [v]) := by
  have := run_storeCells_cells (P := P) b o [v] 0 w (fun j hj => by simpa using (ht j (by simpa using hj)).1) (fun j hj => by simpa using (ht j (by simpa using hj)).2)
    (fun x hx => by rw [List.mem_singleton.1 hx]; exact h1)
  cases hq : P.info? ty with
  | none => simp [hq] at hi
  | some i =>
    have hs : i.size = 1 := by simpa [hq] using hi
    simp only [Nat.add_zero] at this
    simp [storeVar, sizeOf, typeInfo, hq, hv, hs, this]
theorem exec_storeC {P : Program} {o : Oper} {a : Act} {w w' : World} {ty : TypeId} {x y : Operand} {b off : Nat} {v : Value} (ho : o.op = .store ty x y) (hx : a.eval x = .pointer (some ⟨b, off, none⟩)) (hy : a.eval y = v) (hr : (storeVar ty ⟨b, off, none⟩ v).run P w = .ok () w') : (execOp a.eval o).run P w = .ok .skip w' := by
  unfold execOp
  simp only [ho, hx, hy, Instr.storeAt, Instr.sureAddr, Sem.run_bind, Sem.run_pure, Result.andThen_ok, hr]
theorem exec_loadC {P : Program} {o : Oper} {a : Act} {w : World} {ty : TypeId} {x : Operand} {b off : Nat} {v : Value} (ho : o.op = .load ty x) (hx : a.eval x = .pointer (some ⟨b, off, none⟩)) (hr : (loadVar ty ⟨b, off, none⟩).run P w = .ok v w) : (execOp a.eval o).run P w = .ok (.value v) w := by
  unfold execOp
  simp only [ho, hx, Instr.loadAt, Instr.sureAddr, Sem.run_bind, Sem.run_pure, Result.andThen_ok, hr]
theorem iszI : (Try.prog.info? 3).map (·.size) = some 1 := by kernel_rfl
theorem iszD : (Try.prog.info? 26).map (·.size) = some 32 := by kernel_rfl
set_option maxRecDepth 100000 in
set_option maxHeartbeats 2000000 in
theorem bare6 (e s : Int) (w : World) : Calls Try.prog 23 #[.agg (Ms.plain 6 e s Vt.zero zeros32).cells.toArray] w (BareOk w (Ms.plain 6 e s Vt.zero zeros32).cells) := by
  have hm : (Ms.plain 6 e s Vt.zero zeros32).ok := Ms.plain_ok 6 e s Vt.zero_ok zeros32_len zeros32_byte
  have hk : (Ms.plain 6 0 0 Vt.zero zeros32).ok := Ms.plain_ok 6 0 0 Vt.zero_ok zeros32_len zeros32_byte
  have hz0 : Ms.zero.ok := Ms.plain_ok 0 0 0 Vt.zero_ok zeros32_len zeros32_byte
  have lm := hm.len
  have lk := hk.len
  have lz := hz0.len
  have om := all_oneCell_toArray hm.one
  have ok := all_oneCell_toArray hk.one
  have hz := zeroM
  have hbk := build_kind 6
  have hat : ∀ (w' : World) b, w'.rangeAt b 0 (Ms.plain 6 e s Vt.zero zeros32).cells → w'.cell? ⟨b, 0, none⟩ = some (.int .i64 6) ∧ w'.cell? ⟨b, 1, none⟩ = some (.int .i64 e) ∧ w'.cell? ⟨b, 4, none⟩ = some (.int .i64 s) := fun w' b h => ⟨(hm.at h).k, (hm.at h).e, (hm.at h).s⟩
  have hput : ∀ (w' : World) b, w'.rangeAt b 0 (Ms.plain 6 0 0 Vt.zero zeros32).cells → w'.there b 0 119 → ((w'.setCells b 1 [.int .i64 e]).setCells b 4 [.int .i64 s]).rangeAt b 0 (Ms.plain 6 e s Vt.zero zeros32).cells := fun w' b h ht => by
    have h1 := range_put (pre := [Value.int .i64 6]) (mid := [Value.int .i64 0]) (vs := [Value.int .i64 e]) h 1 rfl (by have := there_part ht 1 1 (by omega); rwa [Nat.zero_add] at this) rfl
    exact range_put (pre := [Value.int .i64 6, .int .i64 e, .int .i64 0, .int .i64 0]) (mid := [Value.int .i64 0]) (vs := [Value.int .i64 s]) h1 4 rfl (by have := there_part (World.there_setCells ht b 1 [Value.int .i64 e]) 4 1 (by omega); rwa [Nat.zero_add] at this) rfl
  have im : (Try.prog.info? 37).map (·.size) = some (Ms.plain 6 e s Vt.zero zeros32).cells.length := by rw [lm]; exact iszM
  have im' : (Try.prog.info? 37).map (·.size) = some (Ms.plain 6 e s Vt.zero zeros32).cells.toArray.size := by rw [List.size_toArray, lm]; exact iszM
  have ik' : (Try.prog.info? 37).map (·.size) = some (Ms.plain 6 0 0 Vt.zero zeros32).cells.toArray.size := by rw [List.size_toArray, lk]; exact iszM
  clear hm hk hz0
  generalize (Ms.plain 6 e s Vt.zero zeros32).cells = q at *
  generalize (Ms.plain 6 0 0 Vt.zero zeros32).cells = qk at *
  generalize Ms.zero.cells = z at *
  obtain ⟨hA, hT, hB, hs⟩ := bare_box q z w lz
  go_enter Try.func23, Try.ntmps23
  go_upto_region 1 with fail
  go_name_world w1 hw1
  rw [show (w.alloc (.cells q.toArray 37)).alloc (.cells z.toArray 37) = w1 from hw1] at hA hT hB hs
  clear hw1
  have c0 := (hat _ _ hA).1
  obtain ⟨r2, hB2, hs2, hT2⟩ := fresh_store w1 z.toArray 37 qk (by rw [List.size_toArray, lz, lk])
  rw [show z.toArray.size = 119 by simpa using lz] at hT2
  have hTz : (w1.alloc (.cells z.toArray 37)).there w1.heap.size 0 qk.toArray.size := by
    have := there_new w1 z.toArray 37
    rw [show z.toArray.size = 119 by simpa using lz] at this
    rw [show qk.toArray.size = 119 by simpa using lk]
    exact this
  go_upto_region 2 with (first | (refine wpList_build rfl 37 [(0, .tmp 5)] rfl [(0, .int .i64 6)] _ rfl (hbk _) ?_) | refine wpList_store_mid rfl 37 _ _ rfl _ _ qk.toArray rfl rfl hTz ik' ok ?_)
  go_name_world w2 hw2
  rw [show (w1.alloc (.cells z.toArray 37)).setCells w1.heap.size 0 qk = w2 from hw2] at r2 hB2 hs2 hT2
  have hs2' : w1.heap.size < w2.heap.size := by omega
  clear hw2 hs2 hTz
  have hA2 := range_below hA hB2 (by omega)
  have hT1 := there_below hT hB2 (by omega)
  have hBw := hB.trans (hB2.mono (by omega))
  have c2 := (hat _ _ hA2).1
  clear hA hT hB hB2 c0
  go_upto_region 12 with fail
  obtain ⟨w5, hw5⟩ : ∃ w5, w2.drew = w5 := ⟨_, rfl⟩
  have hA5 : w5.rangeAt w.heap.size 0 q := by rw [← hw5]; exact (World.rangeAt_drew _ _ _ _).2 hA2
  have r5 : w5.rangeAt w1.heap.size 0 qk := by rw [← hw5]; exact (World.rangeAt_drew _ _ _ _).2 r2
  have hT5 : w5.there w1.heap.size 0 119 := by rw [← hw5]; exact hT2
  have hT15 : w5.there (w.heap.size + 1) 0 119 := by rw [← hw5]; exact hT1
  have hB5 : Below w.heap.size w w5 := by rw [← hw5]; exact hBw.drew
  refine hs_begin (S := fun w' => w'.rangeAt w.heap.size 0 q) 8 rfl (by kernel_rfl) ?_
  rw [hw5]
  clear hw5 hA2 r2 hT2 hT1 hBw c2
  have hS := hA5
  refine hs_take (i := 0) (d := some 28) (v := ?_) rfl (by kernel_rfl) (by kernel_rfl) (by kernel_rfl) (by rfl) ?_ hS rfl ?_
  rotate_left
  · intro w' hw
    go_simp
    try with_reducible rfl
  simp only [Act.put, List.setIfInBounds_toArray, List.set_cons_zero, List.set_cons_succ]
  refine hs_take (i := 1) (d := some 29) (v := ?_) rfl (by kernel_rfl) (by kernel_rfl) (by kernel_rfl) (by rfl) ?_ hS rfl ?_
  rotate_left
  · intro w' hw
    have := (hat _ _ hw).2.1
    go_simp
    try with_reducible rfl
  simp only [Act.put, List.setIfInBounds_toArray, List.set_cons_zero, List.set_cons_succ]
  refine hs_take (i := 2) (d := some 30) (v := ?_) rfl (by kernel_rfl) (by kernel_rfl) (by kernel_rfl) (by rfl) ?_ hS rfl ?_
  rotate_left
  · intro w' hw
    go_simp
    try with_reducible rfl
  simp only [Act.put, List.setIfInBounds_toArray, List.set_cons_zero, List.set_cons_succ]
  refine hs_take (i := 3) (d := some 31) (v := ?_) rfl (by kernel_rfl) (by kernel_rfl) (by kernel_rfl) (by rfl) ?_ hS rfl ?_
  rotate_left
  · intro w' hw
    have := (hat _ _ hw).2.2
    go_simp
    try with_reducible rfl
  simp only [Act.put, List.setIfInBounds_toArray, List.set_cons_zero, List.set_cons_succ]
  refine hs_take (i := 4) (d := some 32) (v := ?_) rfl (by kernel_rfl) (by kernel_rfl) (by kernel_rfl) (by rfl) ?_ hS rfl ?_
  rotate_left
  · intro w' hw
    go_simp
    try with_reducible rfl
  simp only [Act.put, List.setIfInBounds_toArray, List.set_cons_zero, List.set_cons_succ]
  refine hs_store (i := 5) (w' := w5.setCells w1.heap.size 1 [.int .i64 e]) rfl (by kernel_rfl) (by rfl) (exec_storeC rfl rfl rfl (store_cell _ _ _ _ _ (by have := there_part hT5 1 1 (by omega); rwa [Nat.zero_add] at this) iszI rfl rfl)) rfl (World.rangeAt_setCells_apart hS _ _ _ (.inl (by omega))) ?_
  have hS6 : (w5.setCells w1.heap.size 1 [.int .i64 e]).rangeAt w.heap.size 0 q := World.rangeAt_setCells_apart hS _ _ _ (.inl (by omega))
  have hT6 : (w5.setCells w1.heap.size 1 [.int .i64 e]).there w1.heap.size 0 119 := World.there_setCells hT5 _ _ _
  have hS := hS6
  refine hs_take (i := 6) (d := some 33) (v := ?_) rfl (by kernel_rfl) (by kernel_rfl) (by kernel_rfl) (by rfl) ?_ hS rfl ?_
  rotate_left
  · intro w' hw
    go_simp
    try with_reducible rfl
  simp only [Act.put, List.setIfInBounds_toArray, List.set_cons_zero, List.set_cons_succ]
  refine hs_store (i := 7) (w' := (w5.setCells w1.heap.size 1 [.int .i64 e]).setCells w1.heap.size 4 [.int .i64 s]) rfl (by kernel_rfl) (by rfl) (exec_storeC rfl rfl rfl (store_cell _ _ _ _ _ (by have := there_part hT6 4 1 (by omega); rwa [Nat.zero_add] at this) iszI rfl rfl)) rfl (World.rangeAt_setCells_apart hS6 _ _ _ (.inl (by omega))) ?_
  refine hs_done (by kernel_rfl) ?_
  have r3 := hput _ _ r5 hT5
  have hT3 : ((w5.setCells w1.heap.size 1 [.int .i64 e]).setCells w1.heap.size 4 [.int .i64 s]).there (w.heap.size + 1) 0 q.toArray.size := by
    rw [show q.toArray.size = 119 by simpa using lm]
    exact World.there_setCells (World.there_setCells hT15 _ _ _) _ _ _
  have hB3 := below_sets (show w.heap.size ≤ w1.heap.size by omega) [.int .i64 s] 4 _ (below_sets (show w.heap.size ≤ w1.heap.size by omega) [.int .i64 e] 1 _ hB5)
  clear hB5 r5 hT15
  go_upto_region 20 with fail
  go_name_world w3 hw3
  rw [show (w5.setCells w1.heap.size 1 [.int .i64 e]).setCells w1.heap.size 4 [.int .i64 s] = w3 from hw3] at r3 hT3 hB3
  clear hw3
  have r4 := World.rangeAt_setCells_same w3 (w.heap.size + 1) 0 q (by have := hT3; rwa [List.size_toArray] at this)
  have hB4 := below_sets (show w.heap.size ≤ w.heap.size + 1 by omega) q 0 _ hB3
  have hrs := run_loadVar_mid (P := Try.prog) _ (w.heap.size + 1) 0 37 q _ r4 Try.underlying37 rfl im
  go_wp2_with (first | (refine wpList_load_mid rfl 37 _ rfl _ _ rfl q _ r3 Try.underlying37 rfl im ?_) | (refine wpList_store_mid rfl 37 _ _ rfl _ _ q.toArray rfl rfl hT3 im' om ?_))
  exact bodyPost_ret (v := .agg q.toArray) (by simp [results, Try.results23, asAddr, hrs, Act.put]) rfl ⟨rfl, hB4⟩
set_option maxRecDepth 100000 in
set_option maxHeartbeats 2000000 in
theorem bare5 (e : Int) (d : List Int) (hd : d.length = 32) (hdb : ∀ z ∈ d, 0 ≤ z ∧ z < 256) (w : World) : Calls Try.prog 23 #[.agg (Ms.plain 5 e 0 Vt.zero d).cells.toArray] w (BareOk w (Ms.plain 5 e 0 Vt.zero d).cells) := by
  have hm : (Ms.plain 5 e 0 Vt.zero d).ok := Ms.plain_ok 5 e 0 Vt.zero_ok hd hdb
  have hk : (Ms.plain 5 0 0 Vt.zero zeros32).ok := Ms.plain_ok 5 0 0 Vt.zero_ok zeros32_len zeros32_byte
  have hz0 : Ms.zero.ok := Ms.plain_ok 0 0 0 Vt.zero_ok zeros32_len zeros32_byte
  have lm := hm.len
  have lk := hk.len
  have lz := hz0.len
  have om := all_oneCell_toArray hm.one
  have ok := all_oneCell_toArray hk.one
  have hz := zeroM
  have hbk := build_kind 5
  have hat : ∀ (w' : World) b, w'.rangeAt b 0 (Ms.plain 5 e 0 Vt.zero d).cells → w'.cell? ⟨b, 0, none⟩ = some (.int .i64 5) ∧ w'.cell? ⟨b, 1, none⟩ = some (.int .i64 e) ∧ w'.rangeAt b 48 (v8 d) := fun w' b h => ⟨(hm.at h).k, (hm.at h).e, (hm.at h).d⟩
  have ld : (v8 d).length = 32 := by rw [v8_length, hd]
  have od := all_oneCell_toArray (v8_one d)
  have hput : ∀ (w' : World) b, w'.rangeAt b 0 (Ms.plain 5 0 0 Vt.zero zeros32).cells → w'.there b 0 119 → ((w'.setCells b 1 [.int .i64 e]).setCells b 48 (v8 d)).rangeAt b 0 (Ms.plain 5 e 0 Vt.zero d).cells := fun w' b h ht => by
    have h1 := range_put (pre := [Value.int .i64 5]) (mid := [Value.int .i64 0]) (vs := [Value.int .i64 e]) h 1 rfl (by have := there_part ht 1 1 (by omega); rwa [Nat.zero_add] at this) rfl
    exact range_put (pre := [Value.int .i64 5, .int .i64 e, .int .i64 0, .int .i64 0, .int .i64 0, .bool false, .slice none 0 0] ++ (Vt.zero.cells ++ [Value.int .i64 0, .int .i64 0, .int .i64 0, .slice none 0 0, .slice none 0 0])) (mid := v8 zeros32) (vs := v8 d) (post := Vt.zero.cells ++ [Value.slice none 0 0, .string ⟨#[]⟩, .slice none 0 0]) h1 48 rfl (by rw [ld]; have := there_part (World.there_setCells ht b 1 [Value.int .i64 e]) 48 32 (by omega); rwa [Nat.zero_add] at this) (by rw [ld]; rfl)
  have im : (Try.prog.info? 37).map (·.size) = some (Ms.plain 5 e 0 Vt.zero d).cells.length := by rw [lm]; exact iszM
  have im' : (Try.prog.info? 37).map (·.size) = some (Ms.plain 5 e 0 Vt.zero d).cells.toArray.size := by rw [List.size_toArray, lm]; exact iszM
  have ik' : (Try.prog.info? 37).map (·.size) = some (Ms.plain 5 0 0 Vt.zero zeros32).cells.toArray.size := by rw [List.size_toArray, lk]; exact iszM
  have id : (Try.prog.info? 26).map (·.size) = some (v8 d).length := by rw [ld]; exact iszD
  have id' : (Try.prog.info? 26).map (·.size) = some (v8 d).toArray.size := by rw [List.size_toArray, ld]; exact iszD
  clear hm hk hz0
  generalize (Ms.plain 5 e 0 Vt.zero d).cells = q at *
  generalize (Ms.plain 5 0 0 Vt.zero zeros32).cells = qk at *
  generalize Ms.zero.cells = z at *
  clear hd hdb
  generalize v8 d = u at *
  obtain ⟨hA, hT, hB, hs⟩ := bare_box q z w lz
  go_enter Try.func23, Try.ntmps23
  go_upto_region 1 with fail
  go_name_world w1 hw1
  rw [show (w.alloc (.cells q.toArray 37)).alloc (.cells z.toArray 37) = w1 from hw1] at hA hT hB hs
  clear hw1
  have c0 := (hat _ _ hA).1
  obtain ⟨r2, hB2, hs2, hT2⟩ := fresh_store w1 z.toArray 37 qk (by rw [List.size_toArray, lz, lk])
  rw [show z.toArray.size = 119 by simpa using lz] at hT2
  have hTz : (w1.alloc (.cells z.toArray 37)).there w1.heap.size 0 qk.toArray.size := by
    have := there_new w1 z.toArray 37
    rw [show z.toArray.size = 119 by simpa using lz] at this
    rw [show qk.toArray.size = 119 by simpa using lk]
    exact this
  go_upto_region 2 with (first | (refine wpList_build rfl 37 [(0, .tmp 5)] rfl [(0, .int .i64 5)] _ rfl (hbk _) ?_) | refine wpList_store_mid rfl 37 _ _ rfl _ _ qk.toArray rfl rfl hTz ik' ok ?_)
  go_name_world w2 hw2
  rw [show (w1.alloc (.cells z.toArray 37)).setCells w1.heap.size 0 qk = w2 from hw2] at r2 hB2 hs2 hT2
  have hs2' : w1.heap.size < w2.heap.size := by omega
  clear hw2 hs2 hTz
  have hA2 := range_below hA hB2 (by omega)
  have hT1 := there_below hT hB2 (by omega)
  have hBw := hB.trans (hB2.mono (by omega))
  have c2 := (hat _ _ hA2).1
  clear hA hT hB hB2 c0
  go_upto_region 17 with fail
  obtain ⟨w5, hw5⟩ : ∃ w5, w2.drew = w5 := ⟨_, rfl⟩
  have hA5 : w5.rangeAt w.heap.size 0 q := by rw [← hw5]; exact (World.rangeAt_drew _ _ _ _).2 hA2
  have r5 : w5.rangeAt w1.heap.size 0 qk := by rw [← hw5]; exact (World.rangeAt_drew _ _ _ _).2 r2
  have hT5 : w5.there w1.heap.size 0 119 := by rw [← hw5]; exact hT2
  have hT15 : w5.there (w.heap.size + 1) 0 119 := by rw [← hw5]; exact hT1
  have hB5 : Below w.heap.size w w5 := by rw [← hw5]; exact hBw.drew
  refine hs_begin (S := fun w' => w'.rangeAt w.heap.size 0 q) 8 rfl (by kernel_rfl) ?_
  rw [hw5]
  clear hw5 hA2 r2 hT2 hT1 hBw c2
  have hS := hA5
  refine hs_take (i := 0) (d := some 52) (v := ?_) rfl (by kernel_rfl) (by kernel_rfl) (by kernel_rfl) (by rfl) ?_ hS rfl ?_
  rotate_left
  · intro w' hw
    go_simp
    try with_reducible rfl
  simp only [Act.put, List.setIfInBounds_toArray, List.set_cons_zero, List.set_cons_succ]
  refine hs_take (i := 1) (d := some 53) (v := ?_) rfl (by kernel_rfl) (by kernel_rfl) (by kernel_rfl) (by rfl) ?_ hS rfl ?_
  rotate_left
  · intro w' hw
    have := (hat _ _ hw).2.1
    go_simp
    try with_reducible rfl
  simp only [Act.put, List.setIfInBounds_toArray, List.set_cons_zero, List.set_cons_succ]
  refine hs_take (i := 2) (d := some 54) (v := ?_) rfl (by kernel_rfl) (by kernel_rfl) (by kernel_rfl) (by rfl) ?_ hS rfl ?_
  rotate_left
  · intro w' hw
    go_simp
    try with_reducible rfl
  simp only [Act.put, List.setIfInBounds_toArray, List.set_cons_zero, List.set_cons_succ]
  refine hs_take (i := 3) (d := some 55) (v := .agg u.toArray) rfl (by kernel_rfl) (by kernel_rfl) (by kernel_rfl) (by rfl) (fun w' hw => exec_loadC rfl rfl (run_loadVar_mid (P := Try.prog) w' _ _ 26 u _ ((hat _ _ hw).2.2) Try.underlying26 rfl id)) hS rfl ?_
  simp only [Act.put, List.setIfInBounds_toArray, List.set_cons_zero, List.set_cons_succ]
  refine hs_take (i := 4) (d := some 56) (v := ?_) rfl (by kernel_rfl) (by kernel_rfl) (by kernel_rfl) (by rfl) ?_ hS rfl ?_
  rotate_left
  · intro w' hw
    go_simp
    try with_reducible rfl
  simp only [Act.put, List.setIfInBounds_toArray, List.set_cons_zero, List.set_cons_succ]
  refine hs_store (i := 5) (w' := w5.setCells w1.heap.size 1 [.int .i64 e]) rfl (by kernel_rfl) (by rfl) (exec_storeC rfl rfl rfl (store_cell _ _ _ _ _ (by have := there_part hT5 1 1 (by omega); rwa [Nat.zero_add] at this) iszI rfl rfl)) rfl (World.rangeAt_setCells_apart hS _ _ _ (.inl (by omega))) ?_
  have hS6 : (w5.setCells w1.heap.size 1 [.int .i64 e]).rangeAt w.heap.size 0 q := World.rangeAt_setCells_apart hS _ _ _ (.inl (by omega))
  have hT6 : (w5.setCells w1.heap.size 1 [.int .i64 e]).there w1.heap.size 0 119 := World.there_setCells hT5 _ _ _
  have hS := hS6
  refine hs_take (i := 6) (d := some 57) (v := ?_) rfl (by kernel_rfl) (by kernel_rfl) (by kernel_rfl) (by rfl) ?_ hS rfl ?_
  rotate_left
  · intro w' hw
    go_simp
    try with_reducible rfl
  simp only [Act.put, List.setIfInBounds_toArray, List.set_cons_zero, List.set_cons_succ]
  refine hs_store (i := 7) (w' := (w5.setCells w1.heap.size 1 [.int .i64 e]).setCells w1.heap.size 48 u) rfl (by kernel_rfl) (by rfl) (exec_storeC rfl rfl rfl (run_storeVar_mid _ _ _ _ u.toArray (by rw [show u.toArray.size = 32 by simpa using ld]; have := there_part hT6 48 32 (by omega); rwa [Nat.zero_add] at this) id' od)) rfl (World.rangeAt_setCells_apart hS6 _ _ _ (.inl (by omega))) ?_
  refine hs_done (by kernel_rfl) ?_
  have r3 := hput _ _ r5 hT5
  have hT3 : ((w5.setCells w1.heap.size 1 [.int .i64 e]).setCells w1.heap.size 48 u).there (w.heap.size + 1) 0 q.toArray.size := by
    rw [show q.toArray.size = 119 by simpa using lm]
    exact World.there_setCells (World.there_setCells hT15 _ _ _) _ _ _
  have hB3 := below_sets (show w.heap.size ≤ w1.heap.size by omega) u 48 _ (below_sets (show w.heap.size ≤ w1.heap.size by omega) [.int .i64 e] 1 _ hB5)
  clear hB5 r5 hT15
  go_upto_region 20 with fail
  go_name_world w3 hw3
  rw [show (w5.setCells w1.heap.size 1 [.int .i64 e]).setCells w1.heap.size 48 u = w3 from hw3] at r3 hT3 hB3
  clear hw3
  have r4 := World.rangeAt_setCells_same w3 (w.heap.size + 1) 0 q (by have := hT3; rwa [List.size_toArray] at this)
  have hB4 := below_sets (show w.heap.size ≤ w.heap.size + 1 by omega) q 0 _ hB3
  have hrs := run_loadVar_mid (P := Try.prog) _ (w.heap.size + 1) 0 37 q _ r4 Try.underlying37 rfl im
  go_wp2_with (first | (refine wpList_load_mid rfl 37 _ rfl _ _ rfl q _ r3 Try.underlying37 rfl im ?_) | (refine wpList_store_mid rfl 37 _ _ rfl _ _ q.toArray rfl rfl hT3 im' om ?_))
  exact bodyPost_ret (v := .agg q.toArray) (by simp [results, Try.results23, asAddr, hrs, Act.put]) rfl ⟨rfl, hB4⟩
end Go.Proofs.Ytahdmajppnffeaa
namespace Go.Proofs.Ytahdmajppnffeaa
open Go.RowKit
open Sha
theorem all_range : ∀ (xs ys : List Int), xs.length = ys.length → ((List.range xs.length).all fun i => xs.getD i 0 == ys.getD i 0) = (xs == ys)
  | [], [], _ => rfl
  | x :: xs, y :: ys, h => by
    have ih := all_range xs ys (by simpa using h)
    rw [List.length_cons, List.range_succ_eq_map, List.all_cons, List.all_map]
    simp only [List.getD_cons_zero, Function.comp_def, List.getD_cons_succ, ih]
    simp [List.cons_beq_cons]
  | [], _ :: _, h => by simp at h
  | _ :: _, [], h => by simp at h
theorem run_equal8 {P : Program} (w : World) (d : Nat) (t e : TypeId) (n : Nat) (ht : P.underlying t = some (.array n e)) (he : P.underlying e = some (.int .u8)) (hsz : (P.info? e).map (·.size) = some 1)
    (xs ys : List Int) (hx : xs.length = n) (hy : ys.length = n) :
    (Op.equalIn (d + 2) t (.agg (v8 xs).toArray) (.agg (v8 ys).toArray)).run P w = .ok (xs == ys) w := by
  rw [← all_range xs ys (hx.trans hy.symm), hx, List.range_eq_range', Op.equalIn]
  simp only [Sem.run_bind, run_underlying ht, Result.andThen_ok, run_size hsz, Std.Legacy.Range.forIn_eq_forIn_range', Std.Legacy.Range.size, Nat.sub_zero, Nat.add_sub_cancel, Nat.div_one]
  have hl : ∀ i ∈ List.range' 0 n 1, i < n := fun i hi => by simpa using (List.mem_range'_1.1 hi).2
  generalize List.range' 0 n 1 = l at hl ⊢
  induction l with
  | nil => simp
  | cons i l ih =>
    have hi : i < n := hl i (by simp)
    have px : (part e (v8 xs).toArray (i * 1)).run P w = .ok (.int .u8 (xs.getD i 0)) w := by
      simp [part, isAgg, run_underlying he, v8, List.getElem?_eq_getElem (show i < xs.length by omega)]
    have py : (part e (v8 ys).toArray (i * 1)).run P w = .ok (.int .u8 (ys.getD i 0)) w := by
      simp [part, isAgg, run_underlying he, v8, List.getElem?_eq_getElem (show i < ys.length by omega)]
    have pe : (Op.equalIn (d + 1) e (.int .u8 (xs.getD i 0)) (.int .u8 (ys.getD i 0))).run P w = .ok (xs.getD i 0 == ys.getD i 0) w := run_equalIn_int w d e .u8 .u8 _ _ he
    simp only [List.forIn_cons, Sem.run_bind, px, py, pe, Result.andThen_ok, List.all_cons]
    cases hb : (xs.getD i 0 == ys.getD i 0)
    · simp
    · simp only [Bool.not_true, Bool.false_eq_true, if_false, Sem.run_pure, Result.andThen_ok, Bool.true_and]
      exact ih fun j hj => hl j (by simp [hj])
end Go.Proofs.Ytahdmajppnffeaa
namespace Go.Proofs.Ytahdmajppnffeaa
open Go.RowKit
open Sha Tal
theorem fldV : (Try.prog.fieldsOf 28).toList.map (fun f => (f.name, f.type, f.offset)) = [("Kind", 3, 0), ("Epoch", 3, 1), ("View", 3, 2), ("Slot", 3, 3), ("Digest", 26, 4)] := by kernel_rfl
theorem undV : Try.prog.underlying 28 = some (.struct (Try.prog.fieldsOf 28)) := by kernel_rfl
theorem sihV : Try.prog.stoodInHeld 28 = false := by kernel_rfl
theorem part_intV (w : World) (q : List Value) (i : Nat) (c : Int) (h : q[i]? = some (.int .i64 c)) : (part 3 q.toArray i).run Try.prog w = .ok (.int .i64 c) w := by
  simp [part, isAgg, run_underlying Try.underlying3, h]
theorem part_digV (w : World) (x : Vt) (hd : x.d.length = 32) : (part 26 x.cells.toArray 4).run Try.prog w = .ok (.agg (v8 x.d).toArray) w := by
  have hx : List.take 32 (List.drop 4 x.cells) = v8 x.d := by
    show List.take 32 (v8 x.d) = v8 x.d
    rw [List.take_of_length_le (by rw [v8_length, hd]; exact Nat.le_refl _)]
  simp [part, isAgg, run_underlying Try.underlying26, run_size iszD, hx]
def vtB (x y : Vt) : Bool := (x.k == y.k) && ((x.e == y.e) && ((x.v == y.v) && ((x.s == y.s) && (x.d == y.d))))
theorem vtB_iff {x y : Vt} : vtB x y = true ↔ x = y := by
  obtain ⟨k, e, v, s, d⟩ := x
  obtain ⟨k', e', v', s', d'⟩ := y
  simp [vtB]
theorem vtEqIn (x y : Vt) (hx : x.d.length = 32) (hy : y.d.length = 32) (d : Nat) (w : World) :
    (Op.equalIn (d + 2 + 1) 28 (.agg x.cells.toArray) (.agg y.cells.toArray)).run Try.prog w = .ok (vtB x y) w := by
  rw [run_equalIn_struct w (d + 2) 28 _ _ undV sihV]
  have hf := fldV
  generalize (Try.prog.fieldsOf 28).toList = fs at hf
  obtain ⟨f0, f1, f2, f3, f4, rfl⟩ : ∃ f0 f1 f2 f3 f4, fs = [f0, f1, f2, f3, f4] := by
    rcases fs with _ | ⟨f0, _ | ⟨f1, _ | ⟨f2, _ | ⟨f3, _ | ⟨f4, _ | ⟨f5, fs⟩⟩⟩⟩⟩⟩ <;> simp at hf
    exact ⟨f0, f1, f2, f3, f4, rfl⟩
  simp only [List.map_cons, List.map_nil, List.cons.injEq, Prod.mk.injEq, and_true] at hf
  obtain ⟨⟨a0, b0, d0⟩, ⟨a1, b1, d1⟩, ⟨a2, b2, d2⟩, ⟨a3, b3, d3⟩, ⟨a4, b4, d4⟩⟩ := hf
  have p0 := part_intV w x.cells 0 x.k rfl
  have q0 := part_intV w y.cells 0 y.k rfl
  have p1 := part_intV w x.cells 1 x.e rfl
  have q1 := part_intV w y.cells 1 y.e rfl
  have p2 := part_intV w x.cells 2 x.v rfl
  have q2 := part_intV w y.cells 2 y.v rfl
  have p3 := part_intV w x.cells 3 x.s rfl
  have q3 := part_intV w y.cells 3 y.s rfl
  have p4 := part_digV w x hx
  have q4 := part_digV w y hy
  have e0 := fun a b => run_equalIn_int (P := Try.prog) w (d + 1) 3 .i64 .i64 a b Try.underlying3
  have e4 := run_equal8 (P := Try.prog) w d 26 5 32 Try.underlying26 Try.underlying5 isz8 x.d y.d hx hy
  unfold vtB
  generalize x.cells.toArray = q at *
  generalize y.cells.toArray = q' at *
  obtain ⟨T, hT⟩ : ∃ T, (v8 x.d).toArray = T := ⟨_, rfl⟩
  obtain ⟨T', hT'⟩ : ∃ T, (v8 y.d).toArray = T := ⟨_, rfl⟩
  rw [hT] at p4 e4
  rw [hT'] at q4 e4
  clear hT hT'
  obtain ⟨D, hD⟩ : ∃ D, d + 1 + 1 = D := ⟨_, rfl⟩
  have e4 : (Op.equalIn (d + 1 + 1) 26 (.agg T) (.agg T')).run Try.prog w = .ok (x.d == y.d) w := e4
  rw [hD] at e4
  have n0 : ¬ ("Kind" = "_") := by decide
  have n1 : ¬ ("Epoch" = "_") := by decide
  have n2 : ¬ ("View" = "_") := by decide
  have n3 : ¬ ("Slot" = "_") := by decide
  have n4 : ¬ ("Digest" = "_") := by decide
  simp only [Op.eqFields, a0, a1, a2, a3, a4, b0, b1, b2, b3, b4, d0, d1, d2, d3, d4, ne_eq, n0, n1, n2, n3, n4, not_false_eq_true, if_true]
  rw [show d + 2 = d + 1 + 1 from rfl, hD]
  rw [hD] at e0
  clear hD
  simp only [Sem.run_bind, p0, q0, Result.andThen_ok, e0]
  cases (x.k == y.k)
  · simp only [Bool.not_false, if_true, Sem.run_pure, Bool.false_and]
  · simp only [Bool.not_true, Bool.false_eq_true, if_false, Sem.run_bind, p1, q1, Result.andThen_ok, e0, Bool.true_and]
    cases (x.e == y.e)
    · simp only [Bool.not_false, if_true, Sem.run_pure, Bool.false_and]
    · simp only [Bool.not_true, Bool.false_eq_true, if_false, Sem.run_bind, p2, q2, Result.andThen_ok, e0, Bool.true_and]
      cases (x.v == y.v)
      · simp only [Bool.not_false, if_true, Sem.run_pure, Bool.false_and]
      · simp only [Bool.not_true, Bool.false_eq_true, if_false, Sem.run_bind, p3, q3, Result.andThen_ok, e0, Bool.true_and]
        cases (x.s == y.s)
        · simp only [Bool.not_false, if_true, Sem.run_pure, Bool.false_and]
        · simp only [Bool.not_true, Bool.false_eq_true, if_false, Sem.run_bind, p4, q4, Result.andThen_ok, e4, Bool.true_and]
          cases (x.d == y.d)
          · simp only [Bool.not_false, if_true, Sem.run_pure]
          · simp only [Bool.not_true, Bool.false_eq_true, if_false, Sem.run_pure]
theorem eqInV (x y : Vt) (hx : x.d.length = 32) (hy : y.d.length = 32) (w : World) : (Op.equalIn 10000 28 (.agg x.cells.toArray) (.agg y.cells.toArray)).run Try.prog w = .ok (vtB x y) w := vtEqIn x y hx hy 9997 w
theorem eqInD (x y : List Int) (hx : x.length = 32) (hy : y.length = 32) (w : World) : (Op.equalIn 10000 26 (.agg (v8 x).toArray) (.agg (v8 y).toArray)).run Try.prog w = .ok (x == y) w := run_equal8 w 9998 26 5 32 Try.underlying26 Try.underlying5 isz8 x y hx hy
theorem vtB_self (x : Vt) : vtB x x = true := vtB_iff.2 rfl
/-- nothing against nothing -/
theorem eqR0 (w : World) : Calls Try.prog 82 #[.slice none 0 0, .slice none 0 0] w fun e w' => e = .returned (.bool true) ∧ w' = w := by
  go_enter Try.func82, Try.ntmps82
  go_wp2
  go_loopw [13] (fun iv wr => iv = .int .i64 0 ∧ wr = w) (fun _ _ => 0)
  case atStart => exact ⟨rfl, rfl⟩
  case round =>
    obtain ⟨rfl, rfl⟩ := hrel
    go_wp2
    go_ret
    exact ⟨rfl, rfl⟩
theorem eqE0 (w : World) : Calls Try.prog 52 #[.slice none 0 0, .slice none 0 0] w fun e w' => e = .returned (.bool true) ∧ w' = w := by
  go_enter Try.func52, Try.ntmps52
  go_wp2
  go_loopw [13] (fun iv wr => iv = .int .i64 0 ∧ wr = w) (fun _ _ => 0)
  case atStart => exact ⟨rfl, rfl⟩
  case round =>
    obtain ⟨rfl, rfl⟩ := hrel
    go_wp2
    go_ret
    exact ⟨rfl, rfl⟩
theorem eqS0 (w : World) : Calls Try.prog 54 #[.slice none 0 0, .slice none 0 0] w fun e w' => e = .returned (.bool true) ∧ w' = w := by
  go_enter Try.func54, Try.ntmps54
  go_wp2
  go_loopw [13] (fun iv wr => iv = .int .i64 0 ∧ wr = w) (fun _ _ => 0)
  case atStart => exact ⟨rfl, rfl⟩
  case round =>
    obtain ⟨rfl, rfl⟩ := hrel
    go_wp2
    go_ret
    exact ⟨rfl, rfl⟩
theorem eqH0 (f : Value) (w : World) : Calls Try.prog 83 #[.slice none 0 0, .slice none 0 0, f] w fun e w' => e = .returned (.bool true) ∧ w' = w := by
  go_enter Try.func83, Try.ntmps83
  go_wp2
  go_loopw [17] (fun iv wr => iv = .int .i64 0 ∧ wr = w) (fun _ _ => 0)
  case atStart => exact ⟨rfl, rfl⟩
  case round =>
    obtain ⟨rfl, rfl⟩ := hrel
    go_wp2
    go_ret
    exact ⟨rfl, rfl⟩
theorem amR0 (m : Int) (f : Value) (hm : 0 ≤ m) (w : World) : Calls Try.prog 85 #[.slice none 0 0, .int .i64 m, f] w fun e w' => e = .returned (.bool true) ∧ w' = w := by
  go_enter Try.func85, Try.ntmps85
  go_wp2
  go_loopw [15] (fun iv wr => iv = .int .i64 0 ∧ wr = w) (fun _ _ => 0)
  case atStart => exact ⟨rfl, rfl⟩
  case round =>
    obtain ⟨rfl, rfl⟩ := hrel
    go_wp2
    go_ret
    exact ⟨rfl, rfl⟩
theorem amH0 (m : Int) (f : Value) (hm : 0 ≤ m) (w : World) : Calls Try.prog 87 #[.slice none 0 0, .int .i64 m, f] w fun e w' => e = .returned (.bool true) ∧ w' = w := by
  go_enter Try.func87, Try.ntmps87
  go_wp2
  go_loopw [15] (fun iv wr => iv = .int .i64 0 ∧ wr = w) (fun _ _ => 0)
  case atStart => exact ⟨rfl, rfl⟩
  case round =>
    obtain ⟨rfl, rfl⟩ := hrel
    go_wp2
    go_ret
    exact ⟨rfl, rfl⟩
theorem amS0 (m : Int) (f : Value) (hm : 0 ≤ m) (w : World) : Calls Try.prog 89 #[.slice none 0 0, .int .i64 m, f] w fun e w' => e = .returned (.bool true) ∧ w' = w := by
  go_enter Try.func89, Try.ntmps89
  go_wp2
  go_loopw [15] (fun iv wr => iv = .int .i64 0 ∧ wr = w) (fun _ _ => 0)
  case atStart => exact ⟨rfl, rfl⟩
  case round =>
    obtain ⟨rfl, rfl⟩ := hrel
    go_wp2
    go_ret
    exact ⟨rfl, rfl⟩
theorem amE0 (m : Int) (f : Value) (hm : 0 ≤ m) (w : World) : Calls Try.prog 60 #[.slice none 0 0, .int .i64 m, f] w fun e w' => e = .returned (.bool true) ∧ w' = w := by
  go_enter Try.func60, Try.ntmps60
  go_wp2
  go_loopw [15] (fun iv wr => iv = .int .i64 0 ∧ wr = w) (fun _ _ => 0)
  case atStart => exact ⟨rfl, rfl⟩
  case round =>
    obtain ⟨rfl, rfl⟩ := hrel
    go_wp2
    go_ret
    exact ⟨rfl, rfl⟩
/-- batches without requests -/
def bat0 (q : Bool) : Value := .agg #[.bool q, .slice none 0 0]
theorem bsame0 (q : Bool) (w : World) : Calls Try.prog 50 #[bat0 q, bat0 q] w fun e w' => e = .returned (.bool true) ∧ Below w.heap.size w w' := by
  have hB : Below w.heap.size w ((w.alloc (.cells #[.bool q, .slice none 0 0] 24)).alloc (.cells #[.bool q, .slice none 0 0] 24)) := ((Below.refl _ w).alloc (Nat.le_refl _) _).alloc (by simp) _
  unfold bat0
  cases q
  all_goals
    go_enter Try.func50, Try.ntmps50
    go_wp2_with (go_at_call 82; refine (eqR0 _).mono ?_; rintro e1 w1 ⟨rfl, hx⟩; obtain rfl := hx.symm; clear hx)
    go_ret
    exact ⟨rfl, hB⟩
theorem batMay0 (q : Bool) (w : World) : Calls Try.prog 58 #[bat0 q] w fun e w' => e = .returned (.bool true) ∧ Below w.heap.size w w' := by
  have hB : Below w.heap.size w (w.alloc (.cells #[.bool q, .slice none 0 0] 24)) := (Below.refl _ w).alloc (Nat.le_refl _) _
  unfold bat0
  cases q
  all_goals
    go_enter Try.func58, Try.ntmps58
    go_wp2_with (go_at_call 85; refine (amR0 _ _ (by omega) _).mono ?_; rintro e1 w1 ⟨rfl, hx⟩; obtain rfl := hx.symm; clear hx)
    go_ret
    exact ⟨rfl, hB⟩
theorem sigMay0 (w : World) : Calls Try.prog 62 #[.slice none 0 0] w fun e w' => e = .returned (.bool true) ∧ w' = w := by
  go_enter Try.func62, Try.ntmps62
  go_wp2_with (go_at_call 89; refine (amS0 _ _ (by omega) _).mono ?_; rintro e1 w1 ⟨rfl, hx⟩; obtain rfl := hx.symm; clear hx)
  go_ret
  exact ⟨rfl, rfl⟩
/-- changes without anything -/
def chg0 : Value := .agg #[.int .i64 0, .int .i64 0, .int .i64 0, .slice none 0 0]
theorem schg0 (w : World) : Calls Try.prog 51 #[chg0, chg0] w fun e w' => e = .returned (.bool true) ∧ Below w.heap.size w w' := by
  have hB : Below w.heap.size w ((w.alloc (.cells #[.int .i64 0, .int .i64 0, .int .i64 0, .slice none 0 0] 31)).alloc (.cells #[.int .i64 0, .int .i64 0, .int .i64 0, .slice none 0 0] 31)) := ((Below.refl _ w).alloc (Nat.le_refl _) _).alloc (by simp) _
  unfold chg0
  go_enter Try.func51, Try.ntmps51
  go_wp2_with (go_at_call 83; refine (eqH0 _ _).mono ?_; rintro e1 w1 ⟨rfl, hx⟩; obtain rfl := hx.symm; clear hx)
  go_ret
  exact ⟨rfl, hB⟩
theorem chgMay0 (w : World) : Calls Try.prog 59 #[chg0] w fun e w' => e = .returned (.bool true) ∧ Below w.heap.size w w' := by
  have hB : Below w.heap.size w (w.alloc (.cells #[.int .i64 0, .int .i64 0, .int .i64 0, .slice none 0 0] 31)) := (Below.refl _ w).alloc (Nat.le_refl _) _
  have i1 : inB 0 1048576 = true := rfl
  have i2 : inB 0 64 = true := rfl
  have i3 : inB 0 1099511627776 = true := rfl
  unfold chg0
  go_enter Try.func59, Try.ntmps59
  go_wp2_with (first | (go_at_call 55; refine (within_any _ _ _).mono ?_; rintro e1 w1 ⟨rfl, hx⟩; obtain rfl := hx.symm; clear hx; (first | rw [i1] | rw [i2] | rw [i3])) | (go_at_call 87; refine (amH0 _ _ (by omega) _).mono ?_; rintro e1 w1 ⟨rfl, hx⟩; obtain rfl := hx.symm; clear hx))
  go_ret
  exact ⟨rfl, hB⟩
end Go.Proofs.Ytahdmajppnffeaa
