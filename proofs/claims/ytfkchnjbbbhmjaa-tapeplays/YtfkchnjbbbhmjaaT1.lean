/- tape's model; where a tape lies -/
import Derived.Test.YtfkchnjbbbhmjaaP0
import Derived.Test.YtfkchnjbbbhmjaaHeld
import Derived.WalkSmall
import Derived.BigQuiet
import Derived.Deep.QuietTactic
import Derived.Lib.ItoaWalk
import Derived.Deep.Cut
namespace Go.Proofs.Ytfkchnjbbbhmjaa
open Go.RowKit
theorem hide {p : Prop} (h : p) : Hid p := h
structure Mt where
  on : Bool
  room : Int
  a : List Int
  b : List Int
  sa : Nat
  sb : Nat
  pl : Bool
  af : Int
  ke : Int
  ops : Int
  fa : Int
/-- how many bytes stay -/
def keptN (keep : Int) (n s : Nat) : Nat := s + (max 0 (min keep ((n : Int) - s))).toNat
theorem keptN_le (keep : Int) {n s : Nat} (h : s ≤ n) : keptN keep n s ≤ n := by unfold keptN; omega
theorem keptN_ge (keep : Int) (n s : Nat) : s ≤ keptN keep n s := by unfold keptN; omega
def Mt.get (M : Mt) (k : Bool) : List Int := match k with | false => M.a | true => M.b
def Mt.sr (M : Mt) (k : Bool) : Nat := match k with | false => M.sa | true => M.sb
def Mt.setA (M : Mt) (k : Bool) (xs : List Int) (s : Nat) : Mt := match k with | false => { M with a := xs, sa := s } | true => { M with b := xs, sb := s }
def Mt.lose (M : Mt) (keep : Int) : Mt :=
  { M with a := M.a.take (keptN keep M.a.length M.sa), sa := keptN keep M.a.length M.sa, b := M.b.take (keptN keep M.b.length M.sb), sb := keptN keep M.b.length M.sb, on := false, pl := false, fa := wrap64 (M.fa + 1) }
structure Mt.ok (M : Mt) : Prop where
  za : ∀ z ∈ M.a, 0 ≤ z ∧ z < 256
  zb : ∀ z ∈ M.b, 0 ≤ z ∧ z < 256
  sa : M.sa ≤ M.a.length
  sb : M.sb ≤ M.b.length
  rm : (M.a.length : Int) + M.b.length ≤ M.room
  rl : M.room ≤ 1073741824
  pa : M.pl = true → 0 ≤ M.af ∧ M.af ≤ 9223372036854775807
theorem Mt.ok.lose {M : Mt} (h : M.ok) (keep : Int) : (M.lose keep).ok := by
  have h1 := keptN_le keep h.sa
  have h2 := keptN_le keep h.sb
  have h3 := h.rm
  refine ⟨fun z hz => h.za z (List.mem_of_mem_take hz), fun z hz => h.zb z (List.mem_of_mem_take hz), ?_, ?_, ?_, h.rl, fun q => by cases q⟩
  · simp only [Mt.lose, List.length_take]; omega
  · simp only [Mt.lose, List.length_take]; omega
  · simp only [Mt.lose, List.length_take]; omega
/-- why nothing can be done -/
def Mt.fault (M : Mt) (area : Int) : Int := if area = 0 ∨ area = 1 then if M.on then 0 else 150 else 2
/-- an operation that may be done is counted -/
def Mt.count (M : Mt) : Mt := { M with af := if M.pl then M.af - 1 else M.af, ops := wrap64 (M.ops + 1) }
def Mt.does (M : Mt) (area : Int) (f : Bool → Mt → Mt) : Int × Mt :=
  if M.fault area = 0 then if M.pl = true ∧ M.af = 0 then (150, M.lose M.ke) else (0, f (decide (area = 1)) M.count) else (M.fault area, M)
def Mt.put (zs : List Int) (k : Bool) (M : Mt) : Mt := M.setA k (M.get k ++ zs) (M.sr k)
def Mt.settle (k : Bool) (M : Mt) : Mt := M.setA k (M.get k) (M.get k).length
def Mt.clear (k : Bool) (M : Mt) : Mt := M.setA k [] 0
def Mt.append (M : Mt) (area : Int) (zs : List Int) : Int × Mt :=
  if M.fault area = 0 then if M.room - ((M.a.length : Int) + M.b.length) < zs.length then (151, M) else M.does area (Mt.put zs) else (M.fault area, M)
def Mt.sync (M : Mt) (area : Int) : Int × Mt := M.does area Mt.settle
def Mt.empty (M : Mt) (area : Int) : Int × Mt := M.does area Mt.clear
def Mt.arm (M : Mt) (n keep : Int) : Int × Mt := if n < 0 then (2, M) else if M.on then (0, { M with pl := true, af := n, ke := keep }) else (150, M)
def Mt.fail (M : Mt) (keep : Int) : Int × Mt := if M.on then (0, M.lose keep) else (150, M)
def Mt.new (room : Int) : Mt := ⟨true, room, [], [], 0, 0, false, 0, 0, 0, 0⟩
theorem Mt.ok.new {room : Int} (h0 : 0 ≤ room) (h1 : room ≤ 1073741824) : (Mt.new room).ok := ⟨by simp [Mt.new], by simp [Mt.new], by simp [Mt.new], by simp [Mt.new], by simpa [Mt.new] using h0, h1, fun q => by cases q⟩
theorem Mt.ok.count {M : Mt} (h : M.ok) (hn : ¬ (M.pl = true ∧ M.af = 0)) : M.count.ok := by
  refine ⟨h.za, h.zb, h.sa, h.sb, h.rm, h.rl, fun q => ?_⟩
  have q' : M.pl = true := q
  have := h.pa q'
  have hne : M.af ≠ 0 := fun e => hn ⟨q', e⟩
  simp only [Mt.count, q', if_true]
  omega
theorem Mt.ok.settle {M : Mt} (h : M.ok) (k : Bool) : (M.settle k).ok := by
  cases k
  · exact ⟨h.za, h.zb, by simp [Mt.settle, Mt.setA, Mt.get], h.sb, h.rm, h.rl, h.pa⟩
  · exact ⟨h.za, h.zb, h.sa, by simp [Mt.settle, Mt.setA, Mt.get], h.rm, h.rl, h.pa⟩
theorem Mt.ok.clear {M : Mt} (h : M.ok) (k : Bool) : (M.clear k).ok := by
  have := h.rm
  cases k
  · exact ⟨by simp [Mt.clear, Mt.setA], h.zb, by simp [Mt.clear, Mt.setA], h.sb, by simp only [Mt.clear, Mt.setA, List.length_nil]; omega, h.rl, h.pa⟩
  · exact ⟨h.za, by simp [Mt.clear, Mt.setA], h.sa, by simp [Mt.clear, Mt.setA], by simp only [Mt.clear, Mt.setA, List.length_nil]; omega, h.rl, h.pa⟩
theorem Mt.ok.put {M : Mt} (h : M.ok) (zs : List Int) (hz : ∀ z ∈ zs, 0 ≤ z ∧ z < 256) (hr : ¬ M.room - ((M.a.length : Int) + M.b.length) < zs.length) (k : Bool) : (Mt.put zs k M).ok := by
  have h1 := h.sa
  have h2 := h.sb
  have app : ∀ xs : List Int, (∀ z ∈ xs, 0 ≤ z ∧ z < 256) → ∀ z ∈ xs ++ zs, 0 ≤ z ∧ z < 256 := fun xs hx z hz' => by
    rcases List.mem_append.1 hz' with q | q
    · exact hx z q
    · exact hz z q
  cases k
  · exact ⟨app _ h.za, h.zb, by simp only [Mt.put, Mt.setA, Mt.get, Mt.sr, List.length_append]; omega, h.sb, by simp only [Mt.put, Mt.setA, Mt.get, List.length_append]; omega, h.rl, h.pa⟩
  · exact ⟨h.za, app _ h.zb, h.sa, by simp only [Mt.put, Mt.setA, Mt.get, Mt.sr, List.length_append]; omega, by simp only [Mt.put, Mt.setA, Mt.get, List.length_append]; omega, h.rl, h.pa⟩
theorem Mt.ok.does {M : Mt} (h : M.ok) (area : Int) (f : Bool → Mt → Mt) (hf : M.count.ok → ∀ k, (f k M.count).ok) : (M.does area f).2.ok := by
  unfold Mt.does
  split
  · split
    · exact h.lose _
    · rename_i hn
      exact hf (h.count hn) _
  · exact h
theorem Mt.ok.sync {M : Mt} (h : M.ok) (area : Int) : (M.sync area).2.ok := h.does area _ fun q k => q.settle k
theorem Mt.ok.empty {M : Mt} (h : M.ok) (area : Int) : (M.empty area).2.ok := h.does area _ fun q k => q.clear k
theorem Mt.ok.append {M : Mt} (h : M.ok) (area : Int) {zs : List Int} (hz : ∀ z ∈ zs, 0 ≤ z ∧ z < 256) : (M.append area zs).2.ok := by
  unfold Mt.append
  split
  · split
    · exact h
    · rename_i hr
      exact h.does area _ fun q k => q.put zs hz hr k
  · exact h
theorem Mt.ok.arm {M : Mt} (h : M.ok) {n : Int} (hn : n ≤ 9223372036854775807) (keep : Int) : (M.arm n keep).2.ok := by
  unfold Mt.arm
  split
  · exact h
  · split
    · exact ⟨h.za, h.zb, h.sa, h.sb, h.rm, h.rl, fun _ => ⟨by show 0 ≤ n; omega, hn⟩⟩
    · exact h
theorem Mt.ok.fail {M : Mt} (h : M.ok) (keep : Int) : (M.fail keep).2.ok := by
  unfold Mt.fail
  split
  · exact h.lose keep
  · exact h
theorem Mt.ok.power {M : Mt} (h : M.ok) : ({ M with on := true } : Mt).ok := ⟨h.za, h.zb, h.sa, h.sb, h.rm, h.rl, h.pa⟩
/-- what of a tape lies where -/
structure Tv where
  p : Nat
  va : Value
  vb : Value
  x : Int
  y : Int
def Tv.own (t : Tv) (b : Nat) : Prop := b = t.p ∨ t.va.ownBlock = some b ∨ t.vb.ownBlock = some b
def tcells (t : Tv) (M : Mt) : List Value := [.bool true, .bool M.on, .int .i64 M.room, t.va, .int .i64 M.sa, t.vb, .int .i64 M.sb, .bool M.pl, .int .i64 t.x, .int .i64 t.y, .int .i64 M.ops, .int .i64 M.fa]
structure TapeAt (w : World) (t : Tv) (M : Mt) : Prop where
  r : w.rangeAt t.p 0 (tcells t M)
  th : w.there t.p 0 12
  oa : w.ownsRow 0 5 1 t.va M.a.length (v8 M.a)
  ob : w.ownsRow 0 5 1 t.vb M.b.length (v8 M.b)
  ap : ∀ g, t.va.ownBlock = some g → g ≠ t.p ∧ t.vb.ownBlock ≠ some g
  bp : ∀ g, t.vb.ownBlock = some g → g ≠ t.p
  px : M.pl = true → t.x = M.af ∧ t.y = M.ke
  ok : M.ok
theorem cell_at {w w' : World} {b o : Nat} {v : Value} (h : w.cell? ⟨b, o, none⟩ = some v) (hb : w'.heap[b]? = w.heap[b]?) : w'.cell? ⟨b, o, none⟩ = some v := by
  rw [← h]; simp [World.cell?, hb]
theorem there_at {w w' : World} {b o n : Nat} (h : w.there b o n) (hb : w'.heap[b]? = w.heap[b]?) : w'.there b o n := fun j hj => by
  obtain ⟨h1, h2⟩ := h j hj
  refine ⟨?_, ?_⟩
  · rw [← h1]; simp [World.cell?, hb]
  · rw [← h2]; simp [World.frozen?, hb]
theorem there_lt {w : World} {b o n : Nat} (h : w.there b o n) (hn : 0 < n) : b < w.heap.size := by
  obtain ⟨v, hv⟩ := Option.isSome_iff_exists.1 (h 0 hn).1
  exact World.block_lt_of_cell? w _ hv
theorem TapeAt.own_lt {w : World} {t : Tv} {M : Mt} (h : TapeAt w t M) {b : Nat} (hb : t.own b) : b < w.heap.size := by
  rcases hb with rfl | hb | hb
  · exact there_lt h.th (by omega)
  · exact owns_lt h.oa hb
  · exact owns_lt h.ob hb
theorem TapeAt.at {w w' : World} {t : Tv} {M : Mt} (h : TapeAt w t M) (hb : ∀ b, t.own b → w'.heap[b]? = w.heap[b]?) : TapeAt w' t M :=
  ⟨range_at h.r (hb _ (.inl rfl)), there_at h.th (hb _ (.inl rfl)), owns_at h.oa (fun g hg => hb g (.inr (.inl hg))), owns_at h.ob (fun g hg => hb g (.inr (.inr hg))), h.ap, h.bp, h.px, h.ok⟩
theorem TapeAt.below {w w' : World} {t : Tv} {M : Mt} (h : TapeAt w t M) (hb : Below w.heap.size w w') : TapeAt w' t M :=
  h.at (fun b hb' => hb.block b (h.own_lt hb'))
theorem TapeAt.off {w w' : World} {t : Tv} {M : Mt} {F : Nat → Prop} (h : TapeAt w t M) (hb : Off F w w') (hF : ∀ b, t.own b → ¬ F b) : TapeAt w' t M :=
  h.at (fun b hb' => hb.2 b (h.own_lt hb') (hF b hb'))
/-- another state of the tape, in its own blocks or new ones -/
def Turned (w w' : World) (t : Tv) (M : Mt) : Prop := ∃ t' : Tv, t'.p = t.p ∧ TapeAt w' t' M ∧ Off t.own w w' ∧ ∀ b, t'.own b → t.own b ∨ w.heap.size ≤ b
theorem Turned.same {w w' : World} {t : Tv} {M : Mt} (h : TapeAt w t M) (hb : Below w.heap.size w w') : Turned w w' t M := ⟨t, rfl, h.below hb, Off.of_below hb, fun _ q => .inl q⟩
def tptr (t : Tv) : Value := .pointer (some ⟨t.p, 0, none⟩)
theorem TapeAt.mono_x {w : World} {t : Tv} {M : Mt} (h : TapeAt w t M) : t.p < w.heap.size := h.own_lt (.inl rfl)
end Go.Proofs.Ytfkchnjbbbhmjaa
