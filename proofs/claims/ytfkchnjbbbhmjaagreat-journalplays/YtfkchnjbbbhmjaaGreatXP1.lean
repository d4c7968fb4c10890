/- append(dst, src...) where dst is a row of the call's own (or nil) and src is whatever yields cells (a slice with an address, a nil slice, an empty slice, a string): one law, over any program.; append(dst, src...) where dst is a row of the call's own (or nil) and src is whatever yields cells (a slice with an address, a nil slice, an empty slice, a string): one law, over any program.; bytes in memory, rows of one's own: the base of tape's texts; frames: all but some blocks stays; A region that draws its order, walked one way under a condition that every operation keeps: what yields one value wherever the condition holds may be taken first; what makes memory, writes or calls comes up alone.; tape's model; where a tape lies; tape's areas: size, cut, settle, empty, lose; tape's areas: an area loses power; put; tape: what is told of a tape; tape: New, Power, Arm, lose, Fail; tape: power goes; tape: bytes are put behind an area's; what is done to an area -/
import Derived.WalkKit
import Derived.Deep.AppendSrc
import Derived.Test.YtfkchnjbbbhmjaaGreatRows
import Derived.Test.YtfkchnjbbbhmjaaGreatChecked
import Derived.WalkSpells
import Derived.RegionTactic
import Derived.ChangeAlike
import Derived.BigRegion
import Derived.Outline
import Derived.Deep.MidRow
import Derived.Below
import Derived.OwnWalk
import Derived.Laws.IdiomCopy
import Derived.Maps.OwnSet
import Derived.Deep.RegionHeld3
import Derived.WalkSmall
import Derived.BigQuiet
import Derived.Deep.QuietTactic
import Derived.Lib.ItoaWalk
import Derived.Deep.Cut
namespace Go.Proofs.YtfkchnjbbbhmjaaGreat
open Go Go.RowKit
section
variable {P : Program} (w : World)

theorem run_append_own_src (base : Nat) (t tx ty e : TypeId) (i : TypeInfo) (z : Value) (size bytes : Nat) (ht : P.underlying t = some (.slice e)) (hi : P.info? e = some i) (hz : i.zero = some z)
    (hsize : i.size = size) (hby : i.bytes = bytes) (hzs : z.cells.size = size)
    (v : Value) (n : Nat) (xs : List Value) (hown : w.ownsRow base e size v n xs)
    (x : Value) (m : Nat) (news : List Value) (hs : Src P size tx x m news w)
    (h63 : n + m ≤ maxLen) (hbytes : (n + m) * bytes ≤ 140737488355328) (hbase : base ≤ w.heap.size) :
    ∃ v' w', (Builtin.append_ #[t, tx] ty #[v, x]).run P w = .ok v' w' ∧ w'.ownsRow base e size v' (n + m) (xs ++ news) ∧ w.grownBy w' v.ownBlock := by
  subst hsize
  subst hby
  have hl := hs.newsLen
  have hlen : (xs ++ news).length = (n + m) * i.size := by rw [List.length_append, hown.1, hl, Nat.add_mul]
  have grown : ∀ (old : Nat), old < n + m → ∀ (row : Option Nat),
      (w.drew.alloc (.cells ((xs ++ news).toArray ++ Builtin.zeroCells z.cells (grownCap w (n + m) old e - (n + m))) e)).ownsRow base e i.size
        (.slice (some ⟨w.heap.size, 0, none⟩) (n + m) (grownCap w (n + m) old e)) (n + m) (xs ++ news) ∧
      w.grownBy (w.drew.alloc (.cells ((xs ++ news).toArray ++ Builtin.zeroCells z.cells (grownCap w (n + m) old e - (n + m))) e)) row := by
    intro old ho row
    have hge := grownCap_ge w (n + m) old e
    have hcm : grownCap w (n + m) old e ≤ maxLen := grownCap_le_maxLen w (n + m) old e h63
    refine ⟨⟨hlen, .inr ⟨w.heap.size, _, _, rfl, hbase, heap_alloc_new w.drew _, hge, hcm, ?_, ?_⟩⟩, ⟨rfl, rfl, rfl, by simp, fun k hk _ => Below.heap_alloc w.drew _ k hk⟩⟩
    · simp only [Array.size_append, List.size_toArray, size_zeroCells, hzs, hlen, ← Nat.add_mul]
      congr 1
      omega
    · simp only [Array.toList_append]
      rw [← hlen]
      exact List.take_left
  have h63' : ((n + m : Nat) : Int) ≤ 9223372036854775807 := by simp only [maxLen] at h63; omega
  rcases hown.2 with ⟨rfl, rfl⟩ | ⟨g, cap, cur, rfl, hbg, hg, hnc, hcm, hcs, htake⟩
  · have hx : xs = [] := List.eq_nil_of_length_eq_zero (by simpa using hown.1)
    subst hx
    by_cases hm : m = 0
    · subst hm
      have hn : news = [] := List.eq_nil_of_length_eq_zero (by simpa using hl)
      subst hn
      refine ⟨.slice none 0 0, w, ?_, World.ownsRow_nil w base e i.size, ⟨rfl, rfl, rfl, Nat.le_refl _, fun _ _ _ => rfl⟩⟩
      have hc := hs.cells
      rcases hs.kind with ⟨e', hk⟩ | hk <;> simp [Builtin.append_, run_underlying ht, run_underlying hk, sizeOf, typeInfo, hi, hs.len, hc]
    · have hr := run_append_grow_src (P := P) w t tx ty e i z ht hi hz none 0 0 [] (run_firstCells_none w.drew i.size 0 0 0) x m news hs (by omega) (by simpa using h63') (growslice_fits (by omega) (by simpa using hbytes))
      have hgr := grown 0 (by omega) (Value.ownBlock (.slice none 0 0))
      exact ⟨_, _, hr, hgr.1, hgr.2⟩
  · by_cases hroom : n + m ≤ cap
    · have hfit : n * i.size + news.length ≤ cur.size := by rw [hl, hcs, ← Nat.add_mul]; exact Nat.mul_le_mul_right _ hroom
      have hst := run_storeCells_at P g (n * i.size) e news 0 cur w hg (by simpa using hfit) hs.one
      simp only [Nat.add_zero] at hst
      have hr : (Builtin.append_ #[t, tx] ty #[.slice (some ⟨g, 0, none⟩) n cap, x]).run P w = .ok (.slice (some ⟨g, 0, none⟩) (n + m) cap) (w.setRow g (cur.toList.take (n * i.size) ++ news ++ cur.toList.drop (n * i.size + news.length)).toArray) := by
        rcases hs.kind with ⟨e', hk⟩ | hk <;> simp [Builtin.append_, run_underlying ht, run_underlying hk, sizeOf, typeInfo, hi, hs.len, hroom, hs.cells, Addr.add_lit, hst]
      refine ⟨_, _, hr, ⟨hlen, .inr ⟨g, cap, _, rfl, hbg, setRow_heap w g cur _ e _ hg, hroom, hcm, ?_, ?_⟩⟩, ⟨rfl, rfl, rfl, by simp, fun k _ hk => setRow_other w g k _ (fun e => hk (by simp [Value.ownBlock, e]))⟩⟩
      · simp only [List.size_toArray, List.length_append, List.length_take, List.length_drop, Array.length_toList]
        omega
      · rw [htake, ← hlen]
        exact List.take_left
    · have holds : ∀ j u, xs[j]? = some u → w.cell? ((⟨g, 0, none⟩ : Addr).add j) = some u := hown.cells (g := g) rfl
      have hr := run_append_grow_src (P := P) w t tx ty e i z ht hi hz (some ⟨g, 0, none⟩) n cap xs (run_firstCells_some w.drew i.size n ⟨g, 0, none⟩ n cap xs hown.1 (by simpa using holds)) x m news hs (by omega) h63' (growslice_fits (by omega) hbytes)
      have hgr := grown cap (by omega) (Value.ownBlock (.slice (some ⟨g, 0, none⟩) n cap))
      exact ⟨_, _, hr, hgr.1, hgr.2⟩

theorem wpList_append_own_src {ops : Array Oper} {rest : List Oper} {o : Oper} {a : Act} {Q : Exit → Act → World → Prop} (hgd : o.guard = none) (s x : Operand) (t tx : TypeId)
    (ho : o.op = .call { callee := .builtin .append, args := #[s, x], argTypes := #[t, tx] })
    (base : Nat) (e : TypeId) (i : TypeInfo) (z : Value) (size bytes : Nat) (ht : P.underlying t = some (.slice e)) (hi : P.info? e = some i) (hz : i.zero = some z)
    (hsize : i.size = size) (hby : i.bytes = bytes) (hzs : z.cells.size = size)
    (v : Value) (n : Nat) (xs : List Value) (hv : a.eval s = v) (hown : w.ownsRow base e size v n xs)
    (xv : Value) (m : Nat) (news : List Value) (hx : a.eval x = xv) (hs : Src P size tx xv m news w)
    (h63 : n + m ≤ maxLen) (hbytes : (n + m) * bytes ≤ 140737488355328) (hbase : base ≤ w.heap.size)
    (h : ∀ v' w', w'.ownsRow base e size v' (n + m) (xs ++ news) → w.grownBy w' v.ownBlock → wpList P ops Q rest (a.put o.dst v') w') : wpList P ops Q (o :: rest) a w := by
  refine wpList_plain hgd fun K hK => ?_
  obtain ⟨v', w', hr, h2, h3⟩ := run_append_own_src (P := P) w base t tx o.type e i z size bytes ht hi hz hsize hby hzs v n xs hown xv m news hs h63 hbytes hbase
  unfold Oper.wp execOp
  simp only [ho, resolve, invoke, builtin, Sem.run_bind, Sem.run_pure, Result.andThen_ok, List.map_toArray, List.map_cons, List.map_nil, hv, hx, hr]
  exact hK _ _ (h v' w' h2 h3)
end
end Go.Proofs.YtfkchnjbbbhmjaaGreat
namespace Go.Proofs.YtfkchnjbbbhmjaaGreat
open Go Go.RowKit
section
variable {P : Program} (w : World)

theorem run_append_own_src2 (base : Nat) (t tx ty e : TypeId) (i : TypeInfo) (z : Value) (size bytes : Nat) (ht : P.underlying t = some (.slice e)) (hi : P.info? e = some i) (hz : i.zero = some z)
    (hsize : i.size = size) (hby : i.bytes = bytes) (hzs : z.cells.size = size)
    (v : Value) (n : Nat) (xs : List Value) (hown : w.ownsRow base e size v n xs)
    (x : Value) (m : Nat) (news : List Value) (hs : Src P size tx x m news w)
    (h63 : n + m ≤ maxLen) (hbytes : (n + m) * bytes ≤ 140737488355328) (hbase : base ≤ w.heap.size) :
    ∃ v' w', (Builtin.append_ #[t, tx] ty #[v, x]).run P w = .ok v' w' ∧ w'.ownsRow base e size v' (n + m) (xs ++ news) ∧ w.grownBy w' v.ownBlock ∧ (∀ g, v'.ownBlock = some g → v.ownBlock = some g ∨ g = w.heap.size) := by
  subst hsize
  subst hby
  have hl := hs.newsLen
  have hlen : (xs ++ news).length = (n + m) * i.size := by rw [List.length_append, hown.1, hl, Nat.add_mul]
  have grown : ∀ (old : Nat), old < n + m → ∀ (row : Option Nat),
      (w.drew.alloc (.cells ((xs ++ news).toArray ++ Builtin.zeroCells z.cells (grownCap w (n + m) old e - (n + m))) e)).ownsRow base e i.size
        (.slice (some ⟨w.heap.size, 0, none⟩) (n + m) (grownCap w (n + m) old e)) (n + m) (xs ++ news) ∧
      w.grownBy (w.drew.alloc (.cells ((xs ++ news).toArray ++ Builtin.zeroCells z.cells (grownCap w (n + m) old e - (n + m))) e)) row := by
    intro old ho row
    have hge := grownCap_ge w (n + m) old e
    have hcm : grownCap w (n + m) old e ≤ maxLen := grownCap_le_maxLen w (n + m) old e h63
    refine ⟨⟨hlen, .inr ⟨w.heap.size, _, _, rfl, hbase, heap_alloc_new w.drew _, hge, hcm, ?_, ?_⟩⟩, ⟨rfl, rfl, rfl, by simp, fun k hk _ => Below.heap_alloc w.drew _ k hk⟩⟩
    · simp only [Array.size_append, List.size_toArray, size_zeroCells, hzs, hlen, ← Nat.add_mul]
      congr 1
      omega
    · simp only [Array.toList_append]
      rw [← hlen]
      exact List.take_left
  have h63' : ((n + m : Nat) : Int) ≤ 9223372036854775807 := by simp only [maxLen] at h63; omega
  rcases hown.2 with ⟨rfl, rfl⟩ | ⟨g, cap, cur, rfl, hbg, hg, hnc, hcm, hcs, htake⟩
  · have hx : xs = [] := List.eq_nil_of_length_eq_zero (by simpa using hown.1)
    subst hx
    by_cases hm : m = 0
    · subst hm
      have hn : news = [] := List.eq_nil_of_length_eq_zero (by simpa using hl)
      subst hn
      refine ⟨.slice none 0 0, w, ?_, World.ownsRow_nil w base e i.size, ⟨rfl, rfl, rfl, Nat.le_refl _, fun _ _ _ => rfl⟩, fun g hg => by simp [Value.ownBlock] at hg⟩
      have hc := hs.cells
      rcases hs.kind with ⟨e', hk⟩ | hk <;> simp [Builtin.append_, run_underlying ht, run_underlying hk, sizeOf, typeInfo, hi, hs.len, hc]
    · have hr := run_append_grow_src (P := P) w t tx ty e i z ht hi hz none 0 0 [] (run_firstCells_none w.drew i.size 0 0 0) x m news hs (by omega) (by simpa using h63') (growslice_fits (by omega) (by simpa using hbytes))
      have hgr := grown 0 (by omega) (Value.ownBlock (.slice none 0 0))
      exact ⟨_, _, hr, hgr.1, hgr.2, fun g hg => Or.inr (by simpa [Value.ownBlock] using hg.symm)⟩
  · by_cases hroom : n + m ≤ cap
    · have hfit : n * i.size + news.length ≤ cur.size := by rw [hl, hcs, ← Nat.add_mul]; exact Nat.mul_le_mul_right _ hroom
      have hst := run_storeCells_at P g (n * i.size) e news 0 cur w hg (by simpa using hfit) hs.one
      simp only [Nat.add_zero] at hst
      have hr : (Builtin.append_ #[t, tx] ty #[.slice (some ⟨g, 0, none⟩) n cap, x]).run P w = .ok (.slice (some ⟨g, 0, none⟩) (n + m) cap) (w.setRow g (cur.toList.take (n * i.size) ++ news ++ cur.toList.drop (n * i.size + news.length)).toArray) := by
        rcases hs.kind with ⟨e', hk⟩ | hk <;> simp [Builtin.append_, run_underlying ht, run_underlying hk, sizeOf, typeInfo, hi, hs.len, hroom, hs.cells, Addr.add_lit, hst]
      refine ⟨_, _, hr, ⟨hlen, .inr ⟨g, cap, _, rfl, hbg, setRow_heap w g cur _ e _ hg, hroom, hcm, ?_, ?_⟩⟩, ⟨rfl, rfl, rfl, by simp, fun k _ hk => setRow_other w g k _ (fun e => hk (by simp [Value.ownBlock, e]))⟩, fun g' hg' => Or.inl (by simpa [Value.ownBlock] using hg')⟩
      · simp only [List.size_toArray, List.length_append, List.length_take, List.length_drop, Array.length_toList]
        omega
      · rw [htake, ← hlen]
        exact List.take_left
    · have holds : ∀ j u, xs[j]? = some u → w.cell? ((⟨g, 0, none⟩ : Addr).add j) = some u := hown.cells (g := g) rfl
      have hr := run_append_grow_src (P := P) w t tx ty e i z ht hi hz (some ⟨g, 0, none⟩) n cap xs (run_firstCells_some w.drew i.size n ⟨g, 0, none⟩ n cap xs hown.1 (by simpa using holds)) x m news hs (by omega) h63' (growslice_fits (by omega) hbytes)
      have hgr := grown cap (by omega) (Value.ownBlock (.slice (some ⟨g, 0, none⟩) n cap))
      exact ⟨_, _, hr, hgr.1, hgr.2, fun g hg => Or.inr (by simpa [Value.ownBlock] using hg.symm)⟩

theorem wpList_append_own_src2 {ops : Array Oper} {rest : List Oper} {o : Oper} {a : Act} {Q : Exit → Act → World → Prop} (hgd : o.guard = none) (s x : Operand) (t tx : TypeId)
    (ho : o.op = .call { callee := .builtin .append, args := #[s, x], argTypes := #[t, tx] })
    (base : Nat) (e : TypeId) (i : TypeInfo) (z : Value) (size bytes : Nat) (ht : P.underlying t = some (.slice e)) (hi : P.info? e = some i) (hz : i.zero = some z)
    (hsize : i.size = size) (hby : i.bytes = bytes) (hzs : z.cells.size = size)
    (v : Value) (n : Nat) (xs : List Value) (hv : a.eval s = v) (hown : w.ownsRow base e size v n xs)
    (xv : Value) (m : Nat) (news : List Value) (hx : a.eval x = xv) (hs : Src P size tx xv m news w)
    (h63 : n + m ≤ maxLen) (hbytes : (n + m) * bytes ≤ 140737488355328) (hbase : base ≤ w.heap.size)
    (h : ∀ v' w', w'.ownsRow base e size v' (n + m) (xs ++ news) → w.grownBy w' v.ownBlock → (∀ g, v'.ownBlock = some g → v.ownBlock = some g ∨ g = w.heap.size) → wpList P ops Q rest (a.put o.dst v') w') : wpList P ops Q (o :: rest) a w := by
  refine wpList_plain hgd fun K hK => ?_
  obtain ⟨v', w', hr, h2, h3, h4⟩ := run_append_own_src2 (P := P) w base t tx o.type e i z size bytes ht hi hz hsize hby hzs v n xs hown xv m news hs h63 hbytes hbase
  unfold Oper.wp execOp
  simp only [ho, resolve, invoke, builtin, Sem.run_bind, Sem.run_pure, Result.andThen_ok, List.map_toArray, List.map_cons, List.map_nil, hv, hx, hr]
  exact hK _ _ (h v' w' h2 h3 h4)
end
end Go.Proofs.YtfkchnjbbbhmjaaGreat
namespace Go.Proofs.YtfkchnjbbbhmjaaGreat
open Go.RowKit
def v8 (zs : List Int) : List Value := zs.map (Value.int .u8)
@[simp] theorem v8_length (zs : List Int) : (v8 zs).length = zs.length := by simp [v8]
theorem v8_one (xs : List Int) : ∀ v ∈ v8 xs, v.oneCell' = true := by
  intro v hv; obtain ⟨x, _, rfl⟩ := List.mem_map.1 hv; rfl
theorem get8 {w : World} {b o : Nat} {xs : List Int} (h : w.rangeAt b o (v8 xs)) {i : Nat} (hi : i < xs.length) : w.cell? ⟨b, o + i, none⟩ = some (.int .u8 (xs.getD i 0)) := by
  refine h i _ ?_
  simp [v8, List.getElem?_eq_getElem hi]
theorem range_set {w : World} {b o : Nat} {cs : List Value} (h : w.rangeAt b o cs) (i : Nat) (v : Value) : (w.setCell ⟨b, o + i, none⟩ v).rangeAt b o (cs.set i v) := by
  intro j u hu
  rw [List.getElem?_set] at hu
  by_cases e : i = j
  · subst e
    rw [if_pos rfl] at hu
    by_cases hi : i < cs.length
    · rw [if_pos hi] at hu
      simp only [Option.some.injEq] at hu
      subst hu
      exact World.cell?_setCell_same _ _ _ (h i _ (List.getElem?_eq_getElem hi))
    · rw [if_neg hi] at hu; cases hu
  · rw [if_neg e] at hu
    rw [World.cell?_setCell_other _ _ _ _ (fun q => e (by injection q with _ q2 _; omega))]
    exact h j u hu
theorem range_other {w : World} {b o : Nat} {cs : List Value} (h : w.rangeAt b o cs) (p : Addr) (v : Value) (hp : p.block = b → p.off < o ∨ o + cs.length ≤ p.off) : (w.setCell p v).rangeAt b o cs := by
  intro j u hu
  have hj : j < cs.length := (List.getElem?_eq_some_iff.1 hu).1
  rw [World.cell?_setCell_other _ _ _ _ (by rintro rfl; have := hp rfl; simp at this; omega)]
  exact h j u hu
theorem range_below {w w' : World} {b o n : Nat} {cs : List Value} (h : w.rangeAt b o cs) (hb : Below n w w') (hn : b < n) : w'.rangeAt b o cs :=
  fun j u hu => (hb.cell (p := ⟨b, o + j, none⟩) hn).trans (h j u hu)
theorem there_below {w w' : World} {b o n m : Nat} (h : w.there b o m) (hb : Below n w w') (hn : b < n) : w'.there b o m :=
  fun j hj => ⟨by rw [hb.cell (p := ⟨b, o + j, none⟩) hn]; exact (h j hj).1, by rw [hb.frozen (p := ⟨b, o + j, none⟩) hn]; exact (h j hj).2⟩
theorem there_set {w : World} {b o n : Nat} (h : w.there b o n) (p : Addr) (v : Value) : (w.setCell p v).there b o n := by
  intro j hj
  obtain ⟨h1, h2⟩ := h j hj
  refine ⟨?_, by rw [World.frozen?_setCell]; exact h2⟩
  obtain ⟨u, hu⟩ := Option.isSome_iff_exists.1 h1
  by_cases e : p = ⟨b, o + j, none⟩
  · subst e; rw [World.cell?_setCell_same _ _ _ hu]; rfl
  · rw [World.cell?_setCell_other _ _ _ _ e, hu]; rfl
theorem there_part {w : World} {b o n : Nat} (h : w.there b o n) (i m : Nat) (hm : i + m ≤ n) : w.there b (o + i) m := fun j hj => by
  have := h (i + j) (by omega); rwa [← Nat.add_assoc] at this
theorem range_part {w : World} {b o : Nat} {cs ds es : List Value} (h : w.rangeAt b o (cs ++ ds ++ es)) : w.rangeAt b (o + cs.length) ds := fun j v hv => by
  have hj : j < ds.length := (List.getElem?_eq_some_iff.1 hv).1
  have := h (cs.length + j) v (by rw [List.append_assoc, List.getElem?_append_right (by omega), List.getElem?_append_left (by omega), Nat.add_sub_cancel_left]; exact hv)
  rwa [← Nat.add_assoc] at this
theorem range_join {w : World} {b o : Nat} {cs ds : List Value} (h : w.rangeAt b o cs) (k : w.rangeAt b (o + cs.length) ds) : w.rangeAt b o (cs ++ ds) := fun j v hv => by
  by_cases hj : j < cs.length
  · rw [List.getElem?_append_left hj] at hv; exact h j v hv
  · rw [List.getElem?_append_right (by omega)] at hv
    have := k _ v hv
    rwa [show o + cs.length + (j - cs.length) = o + j by omega] at this
theorem range_left {w : World} {b o : Nat} {cs ds : List Value} (h : w.rangeAt b o (cs ++ ds)) : w.rangeAt b o cs := fun j v hv => by
  have hj : j < cs.length := (List.getElem?_eq_some_iff.1 hv).1
  exact h j v (by rw [List.getElem?_append_left hj]; exact hv)
theorem range_right {w : World} {b o : Nat} {cs ds : List Value} (h : w.rangeAt b o (cs ++ ds)) : w.rangeAt b (o + cs.length) ds := fun j v hv => by
  have := h (cs.length + j) v (by rw [List.getElem?_append_right (by omega), Nat.add_sub_cancel_left]; exact hv)
  rwa [← Nat.add_assoc] at this
theorem range_new (w : World) (arr : Array Value) (t : TypeId) : (w.alloc (.cells arr t)).rangeAt w.heap.size 0 arr.toList := fun j v hv => by
  rw [World.cell?_alloc_at _ _ _ _ rfl, Nat.zero_add]
  simpa using hv
theorem there_new (w : World) (arr : Array Value) (t : TypeId) : (w.alloc (.cells arr t)).there w.heap.size 0 arr.size := fun j hj => by
  refine ⟨?_, World.frozen?_alloc_at _ _ _ _ rfl⟩
  rw [World.cell?_alloc_at _ _ _ _ rfl, Nat.zero_add]
  simp [hj]
theorem v8_set (xs : List Int) (i : Nat) (x : Int) : (v8 xs).set i (.int .u8 x) = v8 (xs.set i x) := by
  unfold v8; rw [List.map_set]
theorem below_sets {B b : Nat} {a : World} (hb : B ≤ b) : ∀ (vs : List Value) (o : Nat) (w : World), Below B a w → Below B a (w.setCells b o vs)
  | [], _, _, h => h
  | v :: r, o, _, h => below_sets hb r (o + 1) _ (h.setCell (p := ⟨b, o, none⟩) hb v)
theorem size_sets (b : Nat) : ∀ (vs : List Value) (o : Nat) (w : World), (w.setCells b o vs).heap.size = w.heap.size
  | [], _, _ => rfl
  | v :: r, o, _ => by rw [World.setCells, size_sets b r]; simp
/-- a new array, laid and filled -/
theorem fresh_store (w1 : World) (arr : Array Value) (t : TypeId) (cs : List Value) (h : cs.length = arr.size) :
    ((w1.alloc (.cells arr t)).setCells w1.heap.size 0 cs).rangeAt w1.heap.size 0 cs ∧ Below w1.heap.size w1 ((w1.alloc (.cells arr t)).setCells w1.heap.size 0 cs) ∧
    ((w1.alloc (.cells arr t)).setCells w1.heap.size 0 cs).heap.size = w1.heap.size + 1 ∧ ((w1.alloc (.cells arr t)).setCells w1.heap.size 0 cs).there w1.heap.size 0 arr.size :=
  ⟨World.rangeAt_setCells_same _ _ _ _ (by rw [h]; exact there_new w1 arr t), below_sets (Nat.le_refl _) _ _ _ ((Below.refl _ _).alloc (Nat.le_refl _) _), by rw [size_sets]; simp, World.there_setCells (there_new w1 arr t) _ _ _⟩
theorem run_size {P : Program} {e : TypeId} {n : Nat} (h : (P.info? e).map (·.size) = some n) (w : World) : (sizeOf e).run P w = .ok n w := by
  cases hq : P.info? e with
  | none => simp [hq] at h
  | some i => simp [hq] at h; simp [sizeOf, typeInfo, hq, h]
/-- an array's part from l on -/
theorem slice_l {P : Program} {t e : TypeId} {n : Nat} (ht : P.underlying t = some (.array n e)) (hs : (P.info? e).map (·.size) = some 1) (b off l : Nat) (i : Int) (hi : i = (l : Int)) (hl : l < n) (w : World) :
    (Instr.sliceAt t (.pointer (some ⟨b, off, none⟩)) (some (.int .i64 i)) none none).run P w = .ok (.slice (some ⟨b, off + l, none⟩) (n - l) (n - l)) w := by
  subst hi
  have h1 : P.arrayLen t = n := by simp [Program.arrayLen, ht]
  have h2 : P.elem t = e := by simp [Program.elem, ht]
  rw [run_sliceAt_array_l w t ⟨b, off, none⟩ (by rw [h1, h2, ht]) .i64 l (by omega) (by rw [h1]; omega), h1, h2, run_size hs]
  simp only [slicedAt, Result.andThen_ok, Int.toNat_natCast, Nat.mul_one]
  rw [if_neg (by omega), Addr.add_mid]
theorem slice_h {P : Program} {t e : TypeId} {n : Nat} (ht : P.underlying t = some (.array n e)) (hs : (P.info? e).map (·.size) = some 1) (b off h : Nat) (i : Int) (hi : i = (h : Int)) (hl : h ≤ n) (hn : 0 < n) (w : World) :
    (Instr.sliceAt t (.pointer (some ⟨b, off, none⟩)) none (some (.int .i64 i)) none).run P w = .ok (.slice (some ⟨b, off, none⟩) h n) w := by
  subst hi
  have h1 : P.arrayLen t = n := by simp [Program.arrayLen, ht]
  have h2 : P.elem t = e := by simp [Program.elem, ht]
  rw [run_sliceAt_array_h w t ⟨b, off, none⟩ (by rw [h1, h2, ht]) .i64 h (by omega) (by rw [h1]; omega), h1, h2, run_size hs]
  simp only [slicedAt, Result.andThen_ok, Int.toNat_natCast, Nat.zero_mul, Nat.sub_zero]
  rw [if_neg (by omega), Addr.add_mid]; rfl
theorem slice_all {P : Program} {t e : TypeId} {n : Nat} (ht : P.underlying t = some (.array n e)) (hs : (P.info? e).map (·.size) = some 1) (b off : Nat) (hn : 0 < n) (w : World) :
    (Instr.sliceAt t (.pointer (some ⟨b, off, none⟩)) none none none).run P w = .ok (.slice (some ⟨b, off, none⟩) n n) w := by
  have h1 : P.arrayLen t = n := by simp [Program.arrayLen, ht]
  have h2 : P.elem t = e := by simp [Program.elem, ht]
  rw [run_sliceAt_array_all w t ⟨b, off, none⟩ (by rw [h1, h2, ht]), h1, h2, run_size hs]
  simp only [slicedAt, Result.andThen_ok, Nat.zero_mul, Nat.sub_zero]
  rw [if_neg (by omega), Addr.add_mid]; rfl
theorem isz8 : (Tryz.prog.info? 5).map (·.size) = some 1 := by kernel_rfl
def RowAt (w : World) (a : Option Addr) (zs : List Int) : Prop :=
  zs.length ≤ maxLen ∧ (∀ z ∈ zs, 0 ≤ z ∧ z < 256) ∧ (zs = [] ∨ ∃ b off, a = some ⟨b, off, none⟩ ∧ b < w.heap.size ∧ w.rangeAt b off (v8 zs))
theorem RowAt.below {w w' : World} {a : Option Addr} {zs : List Int} (h : RowAt w a zs) (hb : Below w.heap.size w w') : RowAt w' a zs := by
  refine ⟨h.1, h.2.1, ?_⟩
  rcases h.2.2 with h | ⟨b, off, rfl, h1, h2⟩
  · exact Or.inl h
  · exact Or.inr ⟨b, off, rfl, Nat.lt_of_lt_of_le h1 hb.size, range_below h2 hb h1⟩
def cutA (a : Option Addr) (cap n : Nat) : Option Addr := if cap = n then a else a.map (·.add n)
theorem cutA_ne {a : Option Addr} {R cap n : Nat} (h : ∀ x, a = some x → x.block ≠ R) : ∀ x, cutA a cap n = some x → x.block ≠ R := by
  intro x hx
  unfold cutA at hx
  split at hx
  · exact h x hx
  · cases a with
    | none => simp at hx
    | some y =>
      simp at hx
      subst hx
      have := h y rfl
      unfold Addr.add
      split <;> simpa using this
theorem RowAt.take {w : World} {a : Option Addr} {zs : List Int} (h : RowAt w a zs) (n : Nat) : RowAt w a (zs.take n) := by
  obtain ⟨h1, h2, h3⟩ := h
  refine ⟨by rw [List.length_take]; omega, fun z hz => h2 z (List.mem_of_mem_take hz), ?_⟩
  rcases h3 with rfl | ⟨b, off, rfl, hb, hc⟩
  · left; simp
  · right
    refine ⟨b, off, rfl, hb, ?_⟩
    have e : v8 zs = v8 (zs.take n) ++ v8 (zs.drop n) := by unfold v8; rw [← List.map_append, List.take_append_drop]
    rw [e] at hc
    exact range_left hc
theorem RowAt.drop {w : World} {a : Option Addr} {zs : List Int} (h : RowAt w a zs) (n cap : Nat) (hn : n ≤ zs.length) (hcap : zs.length ≤ cap) : RowAt w (cutA a cap n) (zs.drop n) := by
  obtain ⟨h1, h2, h3⟩ := h
  refine ⟨by rw [List.length_drop]; omega, fun z hz => h2 z (List.mem_of_mem_drop hz), ?_⟩
  by_cases he : n = zs.length
  · left; simp [he]
  · rcases h3 with rfl | ⟨b, off, rfl, hb, hc⟩
    · left; simp
    · right
      refine ⟨b, off + n, ?_, hb, ?_⟩
      · unfold cutA
        rw [if_neg (by omega), Option.map_some, Addr.add_mid]
      · have e : v8 zs = v8 (zs.take n) ++ v8 (zs.drop n) := by unfold v8; rw [← List.map_append, List.take_append_drop]
        rw [e] at hc
        have := range_right hc
        rwa [v8_length, List.length_take_of_le hn] at this
def lenV : Value → Nat
  | .slice _ n _ => n
  | _ => 0
theorem v8_append (a b : List Int) : v8 (a ++ b) = v8 a ++ v8 b := by simp [v8]
theorem info8 : (Tryz.prog.info? 5).map (fun i => (i.zero, i.size, i.bytes)) = some (some (.int .u8 0), 1, 1) := by kernel_rfl
theorem info_parts {e : TypeId} {z : Value} {s b : Nat} (h : (Tryz.prog.info? e).map (fun i => (i.zero, i.size, i.bytes)) = some (some z, s, b)) : ∃ i, Tryz.prog.info? e = some i ∧ i.zero = some z ∧ i.size = s ∧ i.bytes = b := by
  cases hq : Tryz.prog.info? e with
  | none => rw [hq] at h; cases h
  | some i =>
    rw [hq] at h
    simp only [Option.map_some, Option.some.injEq, Prod.mk.injEq] at h
    exact ⟨i, rfl, h.1, h.2.1, h.2.2⟩
theorem below_grown {B : Nat} {w w1 w2 : World} {e : TypeId} {v : Value} {n : Nat} {xs : List Value} (hb : Below B w w1) (hB : B ≤ w1.heap.size) (ho : w1.ownsRow B e 1 v n xs) (hg : w1.grownBy w2 v.ownBlock) : Below B w w2 :=
  hb.grown hg hB (fun k hk => (ho.lt k hk).1)
theorem owns_below {w w' : World} {B : Nat} {e : TypeId} {v : Value} {n : Nat} {xs : List Value} (h : w.ownsRow B e 1 v n xs) (hb : Below w.heap.size w w') : w'.ownsRow B e 1 v n xs := by
  refine ⟨h.1, ?_⟩
  rcases h.2 with h | ⟨g, cap, cur, hv, hg, hh, r⟩
  · exact .inl h
  · exact .inr ⟨g, cap, cur, hv, hg, by rw [hb.block g (Array.getElem?_eq_some_iff.1 hh).1]; exact hh, r⟩
theorem own_range {w : World} {B : Nat} {e : TypeId} {v : Value} {n : Nat} {xs : List Value} (h : w.ownsRow B e 1 v n xs) :
    (v = .slice none 0 0 ∧ n = 0 ∧ xs = []) ∨ ∃ g cap, v = .slice (some ⟨g, 0, none⟩) n cap ∧ B ≤ g ∧ g < w.heap.size ∧ n ≤ cap ∧ cap ≤ maxLen ∧ w.rangeAt g 0 xs := by
  have hl := h.1
  rcases h.2 with ⟨rfl, h0⟩ | ⟨g, cap, cur, rfl, hb, hg, hn, hcm, hcs, ht⟩
  · left
    refine ⟨rfl, h0, List.eq_nil_of_length_eq_zero (by rw [hl, h0])⟩
  · right
    refine ⟨g, cap, rfl, hb, (Array.getElem?_eq_some_iff.1 hg).1, hn, hcm, fun j u hu => ?_⟩
    have := h.cells (g := g) rfl j u hu
    rwa [Addr.add_mid] at this
theorem own_bytes {w : World} {B : Nat} {v : Value} {zs : List Int} (h : w.ownsRow B 5 1 v zs.length (v8 zs)) (hz : ∀ z ∈ zs, 0 ≤ z ∧ z < 256) (hm : zs.length ≤ maxLen) :
    ∃ a cap, v = .slice a zs.length cap ∧ zs.length ≤ cap ∧ cap ≤ maxLen ∧ RowAt w a zs := by
  rcases own_range h with ⟨rfl, h0, _⟩ | ⟨g, cap, rfl, hb, hg, hn, hcm, hr⟩
  · have : zs = [] := List.eq_nil_of_length_eq_zero h0
    subst this
    exact ⟨none, 0, rfl, by simp, by unfold maxLen; omega, hm, hz, Or.inl rfl⟩
  · exact ⟨_, cap, rfl, hn, hcm, hm, hz, Or.inr ⟨g, 0, rfl, hg, hr⟩⟩
theorem RowAt.src {w : World} {a : Option Addr} {zs : List Int} (h : RowAt w a zs) (cap : Nat) : Src Tryz.prog 1 35 (.slice a zs.length cap) zs.length (v8 zs) w := by
  cases a with
  | none =>
    have : zs = [] := by
      rcases h.2.2 with q | ⟨b, off, hx, _⟩
      · exact q
      · cases hx
    subst this
    exact Src.ofNil w Tryz.underlying35 cap
  | some x =>
    refine Src.ofSlice w Tryz.underlying35 x zs.length cap _ (by simp) (fun j u hu => ?_) (v8_one _)
    rcases h.2.2 with rfl | ⟨b, off, hx, _, hr⟩
    · simp [v8] at hu
    · cases hx
      rw [Addr.add_mid]
      exact hr j u hu
def IsRow (k : IntKind) (w : World) (a : Option Addr) (len cap : Nat) (zs : List Int) : Prop :=
  (a = none ∧ len = 0 ∧ cap = 0 ∧ zs = []) ∨
  ∃ x, a = some x ∧ len ≤ cap ∧ cap ≤ maxLen ∧ zs.length = cap ∧ (∀ i, i < zs.length → w.cell? (x.add i) = some (.int k (zs.getD i 0))) ∧ ∀ n ∈ zs, (Lit.int k n).wf = true
theorem IsRow.cells {k : IntKind} {w : World} {a : Option Addr} {len cap : Nat} {zs : List Int} (h : IsRow k w a len cap zs) :
    len ≤ cap ∧ cap ≤ maxLen ∧ (zs.take len).length = len ∧ (∀ z ∈ zs.take len, (Lit.int k z).wf = true) ∧ (zs.take len = [] ∨ ∃ b off, a = some ⟨b, off, none⟩ ∧ b < w.heap.size ∧ w.rangeAt b off ((zs.take len).map (Value.int k))) := by
  rcases h with ⟨rfl, rfl, rfl, rfl⟩ | ⟨x, rfl, hl, hm, hz, hcell, hwz⟩
  · simp
  · refine ⟨hl, hm, by rw [List.length_take]; omega, fun z hz => hwz z (List.mem_of_mem_take hz), ?_⟩
    by_cases h0 : len = 0
    · left; simp [h0]
    · right
      obtain ⟨b, off, spot⟩ := x
      have hc := hcell 0 (by omega)
      have hspot : spot = none := by simpa [Addr.add] using World.cell?_spot hc
      subst hspot
      refine ⟨b, off, rfl, ?_, fun j v hv => ?_⟩
      · have := World.block_lt_of_cell? w _ hc; simpa [Addr.add] using this
      · have hj : j < (zs.take len).length := by
          have := (List.getElem?_eq_some_iff.1 hv).1
          simpa using this
        rw [List.length_take] at hj
        have hcj := hcell j (by omega)
        rw [Addr.add_mid] at hcj
        rw [hcj, ← hv]
        have hjz : j < zs.length := by omega
        simp only [List.getElem?_map, List.getElem?_take]
        rw [if_pos (by omega), List.getElem?_eq_getElem hjz, List.getD_eq_getElem?_getD, List.getElem?_eq_getElem hjz]
        rfl
theorem IsRow.rowAt {w : World} {a : Option Addr} {len cap : Nat} {zs : List Int} (h : IsRow .u8 w a len cap zs) : ∃ ys : List Int, len = ys.length ∧ len ≤ cap ∧ cap ≤ maxLen ∧ RowAt w a ys := by
  obtain ⟨h1, h2, h3, h4, h5⟩ := h.cells
  refine ⟨zs.take len, h3.symm, h1, h2, by omega, fun z hz => ?_, h5⟩
  have := h4 z hz
  simp [Lit.wf, IntKind.min, IntKind.max, IntKind.signed, IntKind.bits] at this
  omega
def RowI (w : World) (a : Option Addr) (zs : List Int) : Prop :=
  zs.length ≤ maxLen ∧ (∀ z ∈ zs, (Lit.int .i64 z).wf = true) ∧ (zs = [] ∨ ∃ b off, a = some ⟨b, off, none⟩ ∧ b < w.heap.size ∧ w.rangeAt b off (zs.map (Value.int .i64)))
theorem IsRow.rowI {w : World} {a : Option Addr} {len cap : Nat} {zs : List Int} (h : IsRow .i64 w a len cap zs) : ∃ ys : List Int, len = ys.length ∧ len ≤ cap ∧ cap ≤ maxLen ∧ RowI w a ys := by
  obtain ⟨h1, h2, h3, h4, h5⟩ := h.cells
  exact ⟨zs.take len, h3.symm, h1, h2, by omega, h4, h5⟩

end Go.Proofs.YtfkchnjbbbhmjaaGreat
namespace Go.Proofs.YtfkchnjbbbhmjaaGreat
open Go Go.RowKit
def Off (F : Nat → Prop) (w w' : World) : Prop := Below 0 w w' ∧ ∀ b, b < w.heap.size → ¬ F b → w'.heap[b]? = w.heap[b]?
theorem Off.refl (F : Nat → Prop) (w : World) : Off F w w := ⟨Below.refl _ _, fun _ _ _ => rfl⟩
theorem Off.size {F : Nat → Prop} {w w' : World} (h : Off F w w') : w.heap.size ≤ w'.heap.size := h.1.size
theorem Off.trans {F G : Nat → Prop} {w w1 w2 : World} (h : Off F w w1) (k : Off G w1 w2) (hG : ∀ b, b < w.heap.size → G b → F b) : Off F w w2 :=
  ⟨h.1.trans k.1, fun b hb hf => (k.2 b (Nat.lt_of_lt_of_le hb h.size) (fun hg => hf (hG b hb hg))).trans (h.2 b hb hf)⟩
theorem Off.mono {F G : Nat → Prop} {w w1 : World} (h : Off F w w1) (hG : ∀ b, b < w.heap.size → F b → G b) : Off G w w1 :=
  ⟨h.1, fun b hb hg => h.2 b hb (fun hf => hg (hG b hb hf))⟩
theorem Off.of_below {F : Nat → Prop} {w w' : World} (h : Below w.heap.size w w') : Off F w w' := ⟨h.mono (Nat.zero_le _), fun b hb _ => h.block b hb⟩
theorem Off.of_grown {F : Nat → Prop} {w w' : World} {row : Option Nat} (h : w.grownBy w' row) (hF : ∀ k, row = some k → F k) : Off F w w' :=
  ⟨⟨h.os, h.tape, h.output, h.size, fun k hk => absurd hk (Nat.not_lt_zero k)⟩, fun b hb hf => h.block b hb (fun e => hf (hF b e.symm))⟩
theorem Off.of_setCell {F : Nat → Prop} (w : World) (p : Addr) (u : Value) (hF : F p.block) : Off F w (w.setCell p u) :=
  ⟨⟨rfl, rfl, rfl, by simp [World.setCell], fun k hk => absurd hk (Nat.not_lt_zero k)⟩, fun b _ hf => Below.heap_setCell _ _ _ _ (fun e => hf (e ▸ hF))⟩
theorem Off.below {F : Nat → Prop} {w w' : World} (h : Off F w w') {n : Nat} (hn : n ≤ w.heap.size) (hF : ∀ b, b < n → ¬ F b) : Below n w w' :=
  ⟨h.1.os, h.1.tape, h.1.output, h.1.size, fun k hk => h.2 k (Nat.lt_of_lt_of_le hk hn) (hF k hk)⟩
theorem Off.drew {F : Nat → Prop} {w w' : World} (h : Off F w w') : Off F w w'.drew := ⟨h.1.drew, fun b hb hf => h.2 b hb hf⟩
theorem Off.below_r {F : Nat → Prop} {w w1 w2 : World} (h : Off F w w1) (k : Below w1.heap.size w1 w2) : Off F w w2 :=
  h.trans (Off.of_below (F := fun _ => False) k) (fun _ _ hx => hx.elim)
/-- what a block holds stays -/
theorem range_at {w w' : World} {b o : Nat} {cs : List Value} (h : w.rangeAt b o cs) (hb : w'.heap[b]? = w.heap[b]?) : w'.rangeAt b o cs := fun j v hv => by
  have := h j v hv
  rw [← this]
  simp [World.cell?, hb]
theorem owns_at {w w' : World} {base : Nat} {e : TypeId} {size : Nat} {v : Value} {n : Nat} {xs : List Value} (h : w.ownsRow base e size v n xs) (hb : ∀ g, v.ownBlock = some g → w'.heap[g]? = w.heap[g]?) : w'.ownsRow base e size v n xs := by
  refine ⟨h.1, ?_⟩
  rcases h.2 with h1 | ⟨g, cap, cur, rfl, h2, h3, h4⟩
  · exact .inl h1
  · exact .inr ⟨g, cap, cur, rfl, h2, by rw [hb g rfl]; exact h3, h4⟩
theorem owns_lt {w : World} {base : Nat} {e : TypeId} {size : Nat} {v : Value} {n : Nat} {xs : List Value} (h : w.ownsRow base e size v n xs) {g : Nat} (hg : v.ownBlock = some g) : g < w.heap.size := by
  rcases h.2 with ⟨rfl, _⟩ | ⟨g', cap, cur, rfl, h2, h3, h4⟩
  · simp [Value.ownBlock] at hg
  · simp [Value.ownBlock] at hg
    subst hg
    exact (Array.getElem?_eq_some_iff.1 h3).1
end Go.Proofs.YtfkchnjbbbhmjaaGreat
namespace Go.Proofs.YtfkchnjbbbhmjaaGreat
open Go Go.RowKit
section
variable {P : Program} {ops : Array Oper} {Q : Exit → Act → World → Prop}
def HeldS (P : Program) (ops : Array Oper) (Q : Exit → Act → World → Prop) (S : World → Prop) (fuel : Nat) (listed : Array Bool) (a : Act) (w : World) : Prop :=
  wpAnyH P .any ops (NoPanic Q) S fuel listed a w
theorem hs_begin {id : Nat} {S : World → Prop} {a : Act} {w : World} (n : Nat) (hn : ops.size = n) (hm : P.follows .mixedOrders = true) (h : HeldS P ops Q S n (Array.replicate n false) a w.drew) : (Code.region id ops true).wp P Q a w := by
  subst hn
  exact wp_region_noPanic (wp_region_held hm h)
theorem hs_take {i : Nat} {S : World → Prop} {oi : Oper} {d : Option Nat} {v : Value} {fuel : Nat} {listed : Array Bool} {a : Act} {w : World} (hi : ops[i]? = some oi)
    (hs : Region.noSelect ops = true) (hf : Region.free .any ops listed i = true) (hr : (Region.ready .any ops listed).contains i = true)
    (hw : Region.wanted oi (yielded ops a.tmps) = true) (hy : ∀ w', S w' → (execOp a.eval oi).run P w' = .ok (.value v) w') (hS : S w) (hdst : oi.dst = d)
    (h : HeldS P ops Q S fuel (listed.setIfInBounds i true) (a.put d v) w) : HeldS P ops Q S (fuel + 1) listed a w := by
  subst hdst
  exact wpAnyH_take hi hs hf hr (fun _ _ _ h => h) (Or.inl ⟨hw, hy⟩) hS h
theorem hs_skip {i : Nat} {S : World → Prop} {oi : Oper} {d : Option Nat} {fuel : Nat} {listed : Array Bool} {a : Act} {w : World} (hi : ops[i]? = some oi)
    (hs : Region.noSelect ops = true) (hf : Region.free .any ops listed i = true) (hr : (Region.ready .any ops listed).contains i = true)
    (hw : Region.wanted oi (yielded ops a.tmps) = false) (hS : S w) (hdst : oi.dst = d)
    (h : HeldS P ops Q S fuel (listed.setIfInBounds i true) (a.put d undef) w) : HeldS P ops Q S (fuel + 1) listed a w := by
  subst hdst
  exact wpAnyH_take hi hs hf hr (fun _ _ _ h => h) (Or.inr ⟨hw, rfl⟩) hS h
theorem hs_call {i : Nat} {S : World → Prop} {oi : Oper} {d : Option Nat} {f : FuncId} {args : Array Value} {fuel : Nat} {listed : Array Bool} {a : Act} {w : World} (hi : ops[i]? = some oi)
    (hr : Region.ready .any ops listed = [i]) (hw : Region.wanted oi (yielded ops a.tmps) = true) (hy : (execOp a.eval oi).run P w = .ok (.enter f args) w) (hdst : oi.dst = d)
    (h : Calls P f args w fun e w' => ∃ v, e = .returned v ∧ S w' ∧ HeldS P ops Q S fuel (listed.setIfInBounds i true) (a.put d v) w') : HeldS P ops Q S (fuel + 1) listed a w := by
  subst hdst
  refine wpAnyH_all hr (by simp) ?_
  intro j hj
  obtain rfl : j = i := by simpa using hj
  unfold wpOp
  simp only [hi, hw, if_true]
  left
  unfold Oper.wp
  rw [hy]
  refine h.mono ?_
  rintro e w' ⟨v, rfl, hb, hk⟩
  exact ⟨hb, hk⟩
/-- an operation that comes up alone and makes memory of its own -/
theorem hs_run {i : Nat} {S : World → Prop} {oi : Oper} {d : Option Nat} {v : Value} {fuel : Nat} {listed : Array Bool} {a : Act} {w w' : World} (hi : ops[i]? = some oi)
    (hr : Region.ready .any ops listed = [i]) (hw : Region.wanted oi (yielded ops a.tmps) = true) (hy : (execOp a.eval oi).run P w = .ok (.value v) w') (hdst : oi.dst = d)
    (hS : S w') (h : HeldS P ops Q S fuel (listed.setIfInBounds i true) (a.put d v) w') : HeldS P ops Q S (fuel + 1) listed a w := by
  subst hdst
  refine wpAnyH_all hr (by simp) ?_
  intro j hj
  obtain rfl : j = i := by simpa using hj
  unfold wpOp
  simp only [hi, hw, if_true]
  left
  unfold Oper.wp
  rw [hy]
  exact ⟨hS, h⟩
/-- a store that comes up alone -/
theorem hs_store {i : Nat} {S : World → Prop} {oi : Oper} {fuel : Nat} {listed : Array Bool} {a : Act} {w w' : World} (hi : ops[i]? = some oi)
    (hr : Region.ready .any ops listed = [i]) (hw : Region.wanted oi (yielded ops a.tmps) = true) (hy : (execOp a.eval oi).run P w = .ok .skip w') (hdst : oi.dst = none)
    (hS : S w') (h : HeldS P ops Q S fuel (listed.setIfInBounds i true) a w') : HeldS P ops Q S (fuel + 1) listed a w := by
  refine wpAnyH_all hr (by simp) ?_
  intro j hj
  obtain rfl : j = i := by simpa using hj
  unfold wpOp
  simp only [hi, hw, if_true]
  left
  unfold Oper.wp
  rw [hy]
  refine ⟨hS, ?_⟩
  rw [hdst]
  exact h
theorem hs_done {S : World → Prop} {fuel : Nat} {listed : Array Bool} {a : Act} {w : World} (hr : Region.ready .any ops listed = []) (h : Q .normal a w) : HeldS P ops Q S fuel listed a w :=
  wpAnyH_done hr (NoPanic.normal h) fuel
end
end Go.Proofs.YtfkchnjbbbhmjaaGreat
namespace Go.Proofs.YtfkchnjbbbhmjaaGreat
open Go.RowKit
theorem hide {p : Prop} (h : p) : Hid p := h
structure Mt where
  on : Bool
  room : Int
  a : List Int
  b : List Int
  sa : Nat
  sb : Nat
  pl : Bool
  af : Int
  ke : Int
  ops : Int
  fa : Int
/-- how many bytes stay -/
def keptN (keep : Int) (n s : Nat) : Nat := s + (max 0 (min keep ((n : Int) - s))).toNat
theorem keptN_le (keep : Int) {n s : Nat} (h : s ≤ n) : keptN keep n s ≤ n := by unfold keptN; omega
theorem keptN_ge (keep : Int) (n s : Nat) : s ≤ keptN keep n s := by unfold keptN; omega
def Mt.get (M : Mt) (k : Bool) : List Int := match k with | false => M.a | true => M.b
def Mt.sr (M : Mt) (k : Bool) : Nat := match k with | false => M.sa | true => M.sb
def Mt.setA (M : Mt) (k : Bool) (xs : List Int) (s : Nat) : Mt := match k with | false => { M with a := xs, sa := s } | true => { M with b := xs, sb := s }
def Mt.lose (M : Mt) (keep : Int) : Mt :=
  { M with a := M.a.take (keptN keep M.a.length M.sa), sa := keptN keep M.a.length M.sa, b := M.b.take (keptN keep M.b.length M.sb), sb := keptN keep M.b.length M.sb, on := false, pl := false, fa := wrap64 (M.fa + 1) }
structure Mt.ok (M : Mt) : Prop where
  za : ∀ z ∈ M.a, 0 ≤ z ∧ z < 256
  zb : ∀ z ∈ M.b, 0 ≤ z ∧ z < 256
  sa : M.sa ≤ M.a.length
  sb : M.sb ≤ M.b.length
  rm : (M.a.length : Int) + M.b.length ≤ M.room
  rl : M.room ≤ 1073741824
  pa : M.pl = true → 0 ≤ M.af ∧ M.af ≤ 9223372036854775807
theorem Mt.ok.lose {M : Mt} (h : M.ok) (keep : Int) : (M.lose keep).ok := by
  have h1 := keptN_le keep h.sa
  have h2 := keptN_le keep h.sb
  have h3 := h.rm
  refine ⟨fun z hz => h.za z (List.mem_of_mem_take hz), fun z hz => h.zb z (List.mem_of_mem_take hz), ?_, ?_, ?_, h.rl, fun q => by cases q⟩
  · simp only [Mt.lose, List.length_take]; omega
  · simp only [Mt.lose, List.length_take]; omega
  · simp only [Mt.lose, List.length_take]; omega
/-- why nothing can be done -/
def Mt.fault (M : Mt) (area : Int) : Int := if area = 0 ∨ area = 1 then if M.on then 0 else 150 else 2
/-- an operation that may be done is counted -/
def Mt.count (M : Mt) : Mt := { M with af := if M.pl then M.af - 1 else M.af, ops := wrap64 (M.ops + 1) }
def Mt.does (M : Mt) (area : Int) (f : Bool → Mt → Mt) : Int × Mt :=
  if M.fault area = 0 then if M.pl = true ∧ M.af = 0 then (150, M.lose M.ke) else (0, f (decide (area = 1)) M.count) else (M.fault area, M)
def Mt.put (zs : List Int) (k : Bool) (M : Mt) : Mt := M.setA k (M.get k ++ zs) (M.sr k)
def Mt.settle (k : Bool) (M : Mt) : Mt := M.setA k (M.get k) (M.get k).length
def Mt.clear (k : Bool) (M : Mt) : Mt := M.setA k [] 0
def Mt.append (M : Mt) (area : Int) (zs : List Int) : Int × Mt :=
  if M.fault area = 0 then if M.room - ((M.a.length : Int) + M.b.length) < zs.length then (151, M) else M.does area (Mt.put zs) else (M.fault area, M)
def Mt.sync (M : Mt) (area : Int) : Int × Mt := M.does area Mt.settle
def Mt.empty (M : Mt) (area : Int) : Int × Mt := M.does area Mt.clear
def Mt.arm (M : Mt) (n keep : Int) : Int × Mt := if n < 0 then (2, M) else if M.on then (0, { M with pl := true, af := n, ke := keep }) else (150, M)
def Mt.fail (M : Mt) (keep : Int) : Int × Mt := if M.on then (0, M.lose keep) else (150, M)
def Mt.new (room : Int) : Mt := ⟨true, room, [], [], 0, 0, false, 0, 0, 0, 0⟩
theorem Mt.ok.new {room : Int} (h0 : 0 ≤ room) (h1 : room ≤ 1073741824) : (Mt.new room).ok := ⟨by simp [Mt.new], by simp [Mt.new], by simp [Mt.new], by simp [Mt.new], by simpa [Mt.new] using h0, h1, fun q => by cases q⟩
theorem Mt.ok.count {M : Mt} (h : M.ok) (hn : ¬ (M.pl = true ∧ M.af = 0)) : M.count.ok := by
  refine ⟨h.za, h.zb, h.sa, h.sb, h.rm, h.rl, fun q => ?_⟩
  have q' : M.pl = true := q
  have := h.pa q'
  have hne : M.af ≠ 0 := fun e => hn ⟨q', e⟩
  simp only [Mt.count, q', if_true]
  omega
theorem Mt.ok.settle {M : Mt} (h : M.ok) (k : Bool) : (M.settle k).ok := by
  cases k
  · exact ⟨h.za, h.zb, by simp [Mt.settle, Mt.setA, Mt.get], h.sb, h.rm, h.rl, h.pa⟩
  · exact ⟨h.za, h.zb, h.sa, by simp [Mt.settle, Mt.setA, Mt.get], h.rm, h.rl, h.pa⟩
theorem Mt.ok.clear {M : Mt} (h : M.ok) (k : Bool) : (M.clear k).ok := by
  have := h.rm
  cases k
  · exact ⟨by simp [Mt.clear, Mt.setA], h.zb, by simp [Mt.clear, Mt.setA], h.sb, by simp only [Mt.clear, Mt.setA, List.length_nil]; omega, h.rl, h.pa⟩
  · exact ⟨h.za, by simp [Mt.clear, Mt.setA], h.sa, by simp [Mt.clear, Mt.setA], by simp only [Mt.clear, Mt.setA, List.length_nil]; omega, h.rl, h.pa⟩
theorem Mt.ok.put {M : Mt} (h : M.ok) (zs : List Int) (hz : ∀ z ∈ zs, 0 ≤ z ∧ z < 256) (hr : ¬ M.room - ((M.a.length : Int) + M.b.length) < zs.length) (k : Bool) : (Mt.put zs k M).ok := by
  have h1 := h.sa
  have h2 := h.sb
  have app : ∀ xs : List Int, (∀ z ∈ xs, 0 ≤ z ∧ z < 256) → ∀ z ∈ xs ++ zs, 0 ≤ z ∧ z < 256 := fun xs hx z hz' => by
    rcases List.mem_append.1 hz' with q | q
    · exact hx z q
    · exact hz z q
  cases k
  · exact ⟨app _ h.za, h.zb, by simp only [Mt.put, Mt.setA, Mt.get, Mt.sr, List.length_append]; omega, h.sb, by simp only [Mt.put, Mt.setA, Mt.get, List.length_append]; omega, h.rl, h.pa⟩
  · exact ⟨h.za, app _ h.zb, h.sa, by simp only [Mt.put, Mt.setA, Mt.get, Mt.sr, List.length_append]; omega, by simp only [Mt.put, Mt.setA, Mt.get, List.length_append]; omega, h.rl, h.pa⟩
theorem Mt.ok.does {M : Mt} (h : M.ok) (area : Int) (f : Bool → Mt → Mt) (hf : M.count.ok → ∀ k, (f k M.count).ok) : (M.does area f).2.ok := by
  unfold Mt.does
  split
  · split
    · exact h.lose _
    · rename_i hn
      exact hf (h.count hn) _
  · exact h
theorem Mt.ok.sync {M : Mt} (h : M.ok) (area : Int) : (M.sync area).2.ok := h.does area _ fun q k => q.settle k
theorem Mt.ok.empty {M : Mt} (h : M.ok) (area : Int) : (M.empty area).2.ok := h.does area _ fun q k => q.clear k
theorem Mt.ok.append {M : Mt} (h : M.ok) (area : Int) {zs : List Int} (hz : ∀ z ∈ zs, 0 ≤ z ∧ z < 256) : (M.append area zs).2.ok := by
  unfold Mt.append
  split
  · split
    · exact h
    · rename_i hr
      exact h.does area _ fun q k => q.put zs hz hr k
  · exact h
theorem Mt.ok.arm {M : Mt} (h : M.ok) {n : Int} (hn : n ≤ 9223372036854775807) (keep : Int) : (M.arm n keep).2.ok := by
  unfold Mt.arm
  split
  · exact h
  · split
    · exact ⟨h.za, h.zb, h.sa, h.sb, h.rm, h.rl, fun _ => ⟨by show 0 ≤ n; omega, hn⟩⟩
    · exact h
theorem Mt.ok.fail {M : Mt} (h : M.ok) (keep : Int) : (M.fail keep).2.ok := by
  unfold Mt.fail
  split
  · exact h.lose keep
  · exact h
theorem Mt.ok.power {M : Mt} (h : M.ok) : ({ M with on := true } : Mt).ok := ⟨h.za, h.zb, h.sa, h.sb, h.rm, h.rl, h.pa⟩
/-- what of a tape lies where -/
structure Tv where
  p : Nat
  va : Value
  vb : Value
  x : Int
  y : Int
def Tv.own (t : Tv) (b : Nat) : Prop := b = t.p ∨ t.va.ownBlock = some b ∨ t.vb.ownBlock = some b
def tcells (t : Tv) (M : Mt) : List Value := [.bool true, .bool M.on, .int .i64 M.room, t.va, .int .i64 M.sa, t.vb, .int .i64 M.sb, .bool M.pl, .int .i64 t.x, .int .i64 t.y, .int .i64 M.ops, .int .i64 M.fa]
structure TapeAt (w : World) (t : Tv) (M : Mt) : Prop where
  r : w.rangeAt t.p 0 (tcells t M)
  th : w.there t.p 0 12
  oa : w.ownsRow 0 5 1 t.va M.a.length (v8 M.a)
  ob : w.ownsRow 0 5 1 t.vb M.b.length (v8 M.b)
  ap : ∀ g, t.va.ownBlock = some g → g ≠ t.p ∧ t.vb.ownBlock ≠ some g
  bp : ∀ g, t.vb.ownBlock = some g → g ≠ t.p
  px : M.pl = true → t.x = M.af ∧ t.y = M.ke
  ok : M.ok
theorem cell_at {w w' : World} {b o : Nat} {v : Value} (h : w.cell? ⟨b, o, none⟩ = some v) (hb : w'.heap[b]? = w.heap[b]?) : w'.cell? ⟨b, o, none⟩ = some v := by
  rw [← h]; simp [World.cell?, hb]
theorem there_at {w w' : World} {b o n : Nat} (h : w.there b o n) (hb : w'.heap[b]? = w.heap[b]?) : w'.there b o n := fun j hj => by
  obtain ⟨h1, h2⟩ := h j hj
  refine ⟨?_, ?_⟩
  · rw [← h1]; simp [World.cell?, hb]
  · rw [← h2]; simp [World.frozen?, hb]
theorem there_lt {w : World} {b o n : Nat} (h : w.there b o n) (hn : 0 < n) : b < w.heap.size := by
  obtain ⟨v, hv⟩ := Option.isSome_iff_exists.1 (h 0 hn).1
  exact World.block_lt_of_cell? w _ hv
theorem TapeAt.own_lt {w : World} {t : Tv} {M : Mt} (h : TapeAt w t M) {b : Nat} (hb : t.own b) : b < w.heap.size := by
  rcases hb with rfl | hb | hb
  · exact there_lt h.th (by omega)
  · exact owns_lt h.oa hb
  · exact owns_lt h.ob hb
theorem TapeAt.at {w w' : World} {t : Tv} {M : Mt} (h : TapeAt w t M) (hb : ∀ b, t.own b → w'.heap[b]? = w.heap[b]?) : TapeAt w' t M :=
  ⟨range_at h.r (hb _ (.inl rfl)), there_at h.th (hb _ (.inl rfl)), owns_at h.oa (fun g hg => hb g (.inr (.inl hg))), owns_at h.ob (fun g hg => hb g (.inr (.inr hg))), h.ap, h.bp, h.px, h.ok⟩
theorem TapeAt.below {w w' : World} {t : Tv} {M : Mt} (h : TapeAt w t M) (hb : Below w.heap.size w w') : TapeAt w' t M :=
  h.at (fun b hb' => hb.block b (h.own_lt hb'))
theorem TapeAt.off {w w' : World} {t : Tv} {M : Mt} {F : Nat → Prop} (h : TapeAt w t M) (hb : Off F w w') (hF : ∀ b, t.own b → ¬ F b) : TapeAt w' t M :=
  h.at (fun b hb' => hb.2 b (h.own_lt hb') (hF b hb'))
/-- another state of the tape, in its own blocks or new ones -/
def Turned (w w' : World) (t : Tv) (M : Mt) : Prop := ∃ t' : Tv, t'.p = t.p ∧ TapeAt w' t' M ∧ Off t.own w w' ∧ ∀ b, t'.own b → t.own b ∨ w.heap.size ≤ b
theorem Turned.same {w w' : World} {t : Tv} {M : Mt} (h : TapeAt w t M) (hb : Below w.heap.size w w') : Turned w w' t M := ⟨t, rfl, h.below hb, Off.of_below hb, fun _ q => .inl q⟩
def tptr (t : Tv) : Value := .pointer (some ⟨t.p, 0, none⟩)
theorem TapeAt.mono_x {w : World} {t : Tv} {M : Mt} (h : TapeAt w t M) : t.p < w.heap.size := h.own_lt (.inl rfl)
end Go.Proofs.YtfkchnjbbbhmjaaGreat
namespace Go.Proofs.YtfkchnjbbbhmjaaGreat
open Go.RowKit
set_option maxRecDepth 100000 in
set_option maxHeartbeats 2000000 in
theorem size_any (p o : Nat) (a : Option Addr) (n cap : Nat) (w : World) (h : w.cell? ⟨p, o, none⟩ = some (.slice a n cap)) :
    Calls Tryz.prog 66 #[.pointer (some ⟨p, o, none⟩)] w fun e w' => e = .returned (.int .i64 (n : Int)) ∧ w' = w := by
  go_enter Tryz.func66, Tryz.ntmps66
  go_wp2_with fail
  go_ret
  exact ⟨rfl, rfl⟩
set_option maxRecDepth 100000 in
set_option maxHeartbeats 2000000 in
theorem settle_any (p o : Nat) (a : Option Addr) (n cap : Nat) (u : Value) (w : World) (h : w.cell? ⟨p, o, none⟩ = some (.slice a n cap)) (h1 : w.cell? ⟨p, o + 1, none⟩ = some u) (hf : w.frozen? ⟨p, o + 1, none⟩ = false) :
    Calls Tryz.prog 73 #[.pointer (some ⟨p, o, none⟩)] w fun e w' => e = .returned (.tuple #[]) ∧ w' = w.setCell ⟨p, o + 1, none⟩ (.int .i64 (n : Int)) := by
  have cs := size_any p o a n cap w h
  go_enter Tryz.func73, Tryz.ntmps73
  go_wp2_with fail
  refine cs.mono ?_
  rintro e w' ⟨rfl, hw⟩
  obtain rfl := hw.symm
  clear cs hw
  go_wp2_with fail
  go_end0
  exact ⟨rfl, rfl⟩
set_option maxRecDepth 100000 in
set_option maxHeartbeats 2000000 in
theorem empty_any (p o : Nat) (u v : Value) (w : World) (h : w.cell? ⟨p, o, none⟩ = some u) (hf0 : w.frozen? ⟨p, o, none⟩ = false) (h1 : w.cell? ⟨p, o + 1, none⟩ = some v) (hf : w.frozen? ⟨p, o + 1, none⟩ = false) :
    Calls Tryz.prog 61 #[.pointer (some ⟨p, o, none⟩)] w fun e w' => e = .returned (.tuple #[]) ∧ w' = (w.setCell ⟨p, o, none⟩ (.slice none 0 0)).setCell ⟨p, o + 1, none⟩ (.int .i64 0) := by
  go_enter Tryz.func61, Tryz.ntmps61
  go_wp2_with fail
  go_end0
  exact ⟨rfl, rfl⟩
set_option maxRecDepth 100000 in
set_option maxHeartbeats 2000000 in
theorem cut_some (p o g n cap m : Nat) (w : World) (h : w.cell? ⟨p, o, none⟩ = some (.slice (some ⟨g, 0, none⟩) n cap)) (hf : w.frozen? ⟨p, o, none⟩ = false) (hn : n ≤ cap) (hm : m ≤ n) :
    Calls Tryz.prog 87 #[.pointer (some ⟨p, o, none⟩), .int .i64 (m : Int)] w fun e w' => e = .returned (.tuple #[]) ∧ w' = w.setCell ⟨p, o, none⟩ (.slice (some ⟨g, 0, none⟩) m cap) := by
  have h1 : (0 : Int) ≤ (m : Int) := by omega
  have h2 : (m : Int) ≤ (cap : Int) := by omega
  have h3 : ¬ (cap : Int) < (m : Int) := by omega
  have h4 : m ≤ cap := by omega
  go_enter Tryz.func87, Tryz.ntmps87
  go_wp2_with fail
  go_end0
  exact ⟨rfl, rfl⟩
end Go.Proofs.YtfkchnjbbbhmjaaGreat
namespace Go.Proofs.YtfkchnjbbbhmjaaGreat
open Go.RowKit
def cutV : Value → Nat → Value
  | .slice a _ cap, m => .slice a m cap
  | v, _ => v
set_option maxRecDepth 100000 in
set_option maxHeartbeats 2000000 in
theorem cut_none (p o : Nat) (w : World) (h : w.cell? ⟨p, o, none⟩ = some (.slice none 0 0)) (hf : w.frozen? ⟨p, o, none⟩ = false) :
    Calls Tryz.prog 87 #[.pointer (some ⟨p, o, none⟩), .int .i64 0] w fun e w' => e = .returned (.tuple #[]) ∧ w' = w.setCell ⟨p, o, none⟩ (.slice none 0 0) := by
  go_enter Tryz.func87, Tryz.ntmps87
  go_wp2_with fail
  go_end0
  exact ⟨rfl, rfl⟩
theorem cut_owns {n m B : Nat} {v : Value} {xs : List Value} {w : World} (ho : w.ownsRow B 5 1 v n xs) (hm : m ≤ n) : w.ownsRow B 5 1 (cutV v m) m (xs.take m) ∧ (cutV v m).ownBlock = v.ownBlock := by
  rcases ho.2 with ⟨rfl, h0⟩ | ⟨g, cap, cur, rfl, h2, h3, h4, h5, h6, h7⟩
  · obtain rfl : m = 0 := by omega
    have : xs = [] := List.eq_nil_of_length_eq_zero (by rw [ho.1, h0])
    subst this
    exact ⟨World.ownsRow_nil _ _ _ _, rfl⟩
  · refine ⟨⟨?_, .inr ⟨g, cap, cur, rfl, h2, h3, by omega, h5, h6, ?_⟩⟩, rfl⟩
    · have := ho.1; rw [List.length_take]; omega
    · rw [← h7, List.take_take, Nat.mul_one, Nat.mul_one, Nat.min_eq_left hm]
theorem cut_any (p o n m B : Nat) (v : Value) (xs : List Value) (w : World) (ho : w.ownsRow B 5 1 v n xs) (h : w.cell? ⟨p, o, none⟩ = some v) (hf : w.frozen? ⟨p, o, none⟩ = false) (hm : m ≤ n) :
    Calls Tryz.prog 87 #[.pointer (some ⟨p, o, none⟩), .int .i64 (m : Int)] w (fun e w' => e = .returned (.tuple #[]) ∧ w' = w.setCell ⟨p, o, none⟩ (cutV v m)) := by
  rcases ho.2 with ⟨rfl, h0⟩ | ⟨g, cap, cur, rfl, h2, h3, h4, h5, h6, h7⟩
  · obtain rfl : m = 0 := by omega
    exact cut_none p o w h hf
  · exact cut_some p o g n cap m w h hf h4 hm
theorem owns_slice {w : World} {B : Nat} {e : TypeId} {k : Nat} {v : Value} {n : Nat} {xs : List Value} (h : w.ownsRow B e k v n xs) : ∃ a cap, v = .slice a n cap := by
  rcases h.2 with ⟨rfl, rfl⟩ | ⟨g, cap, cur, rfl, _⟩
  · exact ⟨_, _, rfl⟩
  · exact ⟨_, _, rfl⟩
theorem set_there {w : World} {b o o' : Nat} {v u : Value} (h : w.cell? ⟨b, o, none⟩ = some v) (hne : o' ≠ o) : (w.setCell ⟨b, o', none⟩ u).cell? ⟨b, o, none⟩ = some v := by
  rw [World.cell?_setCell_other _ _ _ _ (by intro q; injection q with _ q2 _; omega)]; exact h
theorem wrap_small (m : Nat) (h : m ≤ 1099511627776) : IntKind.i64.wrap (m : Int) = (m : Int) := by
  rw [IntKind.wrap_i64]; omega
set_option maxRecDepth 100000 in
set_option maxHeartbeats 4000000 in
theorem loseA_any (p o n s B : Nat) (keep : Int) (v : Value) (xs : List Value) (w : World) (ho : w.ownsRow B 5 1 v n xs) (hn : n ≤ 1073741824) (hs : s ≤ n) (h : w.cell? ⟨p, o, none⟩ = some v) (hf : w.frozen? ⟨p, o, none⟩ = false) (h1 : w.cell? ⟨p, o + 1, none⟩ = some (.int .i64 (s : Int))) (hf1 : w.frozen? ⟨p, o + 1, none⟩ = false) :
    Calls Tryz.prog 74 #[.pointer (some ⟨p, o, none⟩), .int .i64 keep] w (fun e w' => e = .returned (.tuple #[]) ∧ ∃ w1, Below w.heap.size w w1 ∧ w1.heap.size = w.heap.size ∧ w' = (w1.setCell ⟨p, o, none⟩ (cutV v (keptN keep n s))).setCell ⟨p, o + 1, none⟩ (.int .i64 (keptN keep n s : Int))) := by
  obtain ⟨a, cap, hv⟩ := owns_slice ho
  have hm := keptN_le keep hs
  have hp : p < w.heap.size := World.block_lt_of_cell? w _ h
  have c0 := size_any p o a n cap
  have c1 := fun w0 h0 h2 h3 => cut_any p o n (keptN keep n s) B v xs w0 h0 h2 h3 hm
  have HK : Hid ((s : Int) + max 0 (min keep ((n : Int) - s)) = (keptN keep n s : Int)) := hide (by unfold keptN; omega)
  obtain ⟨m, hmm⟩ : ∃ m, Hid (keptN keep n s = m) := ⟨_, hide rfl⟩
  simp only [hmm.out] at c1
  rw [hmm.out] at HK hm ⊢
  clear hmm
  obtain ⟨v', hv'⟩ : ∃ v', Hid (cutV v m = v') := ⟨_, hide rfl⟩
  obtain ⟨a', cap', hvs⟩ : ∃ a' cap', v' = .slice a' m cap' := by rw [← hv'.out, hv]; exact ⟨_, _, rfl⟩
  simp only [hv'.out] at c1
  rw [hv'.out]
  have c2 := settle_any p o a' m cap'
  clear hv'
  subst hvs
  have ns : (n : Int) - s ≤ 1073741824 := by omega
  have nl : 0 ≤ (n : Int) - s := by omega
  obtain ⟨k1, hk1⟩ : ∃ k1, Hid ((if (n : Int) - s < keep then (n : Int) - s else keep) = k1) := ⟨_, hide rfl⟩
  obtain ⟨k2, hk2⟩ : ∃ k2, Hid ((if (0 : Int) < k1 then k1 else 0) = k2) := ⟨_, hide rfl⟩
  have HE : Hid (IntKind.i64.wrap ((s : Int) + k2) = (m : Int)) := hide (by
    have g1 := HK.out
    have g2 := hk1.out
    have g3 := hk2.out
    have e : (s : Int) + k2 = (m : Int) := by split at g2 <;> split at g3 <;> omega
    rw [e]
    exact wrap_small m (by omega))
  clear HK
  subst hv
  go_enter Tryz.func74, Tryz.ntmps74
  go_wp2_with fail
  go_quiet (first | (go_at_call 66; refine Calls.quiet_of_same (c0 _ (by go_simp))))
  go_wp2_with fail
  obtain ⟨w8, hw8⟩ : ∃ w8, (w.drewN nq).drew = w8 := ⟨_, rfl⟩
  have B8 : Below w.heap.size w w8 := by rw [← hw8]; exact (below_drewN (Below.refl _ _) _).drew
  have s8 : w8.heap.size = w.heap.size := by rw [← hw8]; rfl
  have q1 : w8.cell? ⟨p, o + 1, none⟩ = some (.int .i64 (s : Int)) := (B8.cell (p := ⟨p, o + 1, none⟩) hp).trans h1
  refine hs_begin (S := fun w' => w'.cell? ⟨p, o + 1, none⟩ = some (.int .i64 (s : Int))) 13 rfl (by kernel_rfl) ?_
  rw [hw8]
  clear hw8
  have hS : (fun w' : World => w'.cell? ⟨p, o + 1, none⟩ = some (.int .i64 (s : Int))) w8 := q1
  refine hs_take (i := 0) (d := some 14) (v := ?_) rfl (by kernel_rfl) (by kernel_rfl) (by kernel_rfl) (by rfl) ?_ hS rfl ?_
  rotate_left
  · intro w' hw
    go_simp
    try with_reducible rfl
  simp only [Act.put, List.setIfInBounds_toArray, List.set_cons_zero, List.set_cons_succ]
  refine hs_take (i := 1) (d := some 15) (v := ?_) rfl (by kernel_rfl) (by kernel_rfl) (by kernel_rfl) (by rfl) ?_ hS rfl ?_
  rotate_left
  · intro w' hw
    go_simp
    try with_reducible rfl
  simp only [Act.put, List.setIfInBounds_toArray, List.set_cons_zero, List.set_cons_succ]
  refine hs_take (i := 2) (d := some 16) (v := ?_) rfl (by kernel_rfl) (by kernel_rfl) (by kernel_rfl) (by rfl) ?_ hS rfl ?_
  rotate_left
  · intro w' hw
    go_simp
    try with_reducible rfl
  simp only [Act.put, List.setIfInBounds_toArray, List.set_cons_zero, List.set_cons_succ]
  refine hs_take (i := 3) (d := some 17) (v := ?_) rfl (by kernel_rfl) (by kernel_rfl) (by kernel_rfl) (by rfl) ?_ hS rfl ?_
  rotate_left
  · intro w' hw
    go_simp
    try with_reducible rfl
  simp only [Act.put, List.setIfInBounds_toArray, List.set_cons_zero, List.set_cons_succ]
  refine hs_take (i := 4) (d := some 18) (v := ?_) rfl (by kernel_rfl) (by kernel_rfl) (by kernel_rfl) (by rfl) ?_ hS rfl ?_
  rotate_left
  · intro w' hw
    go_simp
    try with_reducible rfl
  simp only [Act.put, List.setIfInBounds_toArray, List.set_cons_zero, List.set_cons_succ]
  refine hs_take (i := 5) (d := some 19) (v := ?_) rfl (by kernel_rfl) (by kernel_rfl) (by kernel_rfl) (by rfl) ?_ hS rfl ?_
  rotate_left
  · intro w' hw
    go_simp
    try with_reducible rfl
  simp only [Act.put, List.setIfInBounds_toArray, List.set_cons_zero, List.set_cons_succ]
  refine hs_take (i := 6) (d := some 20) (v := ?_) rfl (by kernel_rfl) (by kernel_rfl) (by kernel_rfl) (by rfl) ?_ hS rfl ?_
  rotate_left
  · intro w' hw
    have hc : w'.cell? ⟨p, o + 1, none⟩ = some (.int .i64 (s : Int)) := hw
    go_simp
    try with_reducible rfl
  simp only [Act.put, List.setIfInBounds_toArray, List.set_cons_zero, List.set_cons_succ]
  refine hs_take (i := 7) (d := some 21) (v := ?_) rfl (by kernel_rfl) (by kernel_rfl) (by kernel_rfl) (by rfl) ?_ hS rfl ?_
  rotate_left
  · intro w' hw
    go_simp
    try with_reducible rfl
  simp only [Act.put, List.setIfInBounds_toArray, List.set_cons_zero, List.set_cons_succ]
  refine hs_take (i := 8) (d := some 22) (v := ?_) rfl (by kernel_rfl) (by kernel_rfl) (by kernel_rfl) (by rfl) ?_ hS rfl ?_
  rotate_left
  · intro w' hw
    go_simp
    try with_reducible rfl
  simp only [Act.put, List.setIfInBounds_toArray, List.set_cons_zero, List.set_cons_succ]
  refine hs_take (i := 9) (d := some 23) (v := ?_) rfl (by kernel_rfl) (by kernel_rfl) (by kernel_rfl) (by rfl) ?_ hS rfl ?_
  rotate_left
  · intro w' hw
    go_simp
    try with_reducible rfl
  simp only [Act.put, List.setIfInBounds_toArray, List.set_cons_zero, List.set_cons_succ]
  rw [hk1.out]
  refine hs_take (i := 10) (d := some 24) (v := ?_) rfl (by kernel_rfl) (by kernel_rfl) (by kernel_rfl) (by rfl) ?_ hS rfl ?_
  rotate_left
  · intro w' hw
    go_simp
    try with_reducible rfl
  simp only [Act.put, List.setIfInBounds_toArray, List.set_cons_zero, List.set_cons_succ]
  rw [hk2.out]
  refine hs_take (i := 11) (d := some 25) (v := ?_) rfl (by kernel_rfl) (by kernel_rfl) (by kernel_rfl) (by rfl) ?_ hS rfl ?_
  rotate_left
  · intro w' hw
    go_simp
    try with_reducible rfl
  simp only [Act.put, List.setIfInBounds_toArray, List.set_cons_zero, List.set_cons_succ]
  rw [HE.out]
  refine hs_call (i := 12) (d := some 26) rfl (by kernel_rfl) (by rfl) (by go_simp; first | done | exact ⟨rfl, rfl⟩ | with_reducible rfl) rfl ?_
  refine (c1 w8 (owns_at ho (fun g hg => B8.block g (owns_lt ho hg))) ((B8.cell (p := ⟨p, o, none⟩) hp).trans h) ((B8.frozen (p := ⟨p, o, none⟩) hp).trans hf)).mono ?_
  rintro e' w9 ⟨rfl, rfl⟩
  refine ⟨_, rfl, set_there q1 (by omega), ?_⟩
  simp only [Act.put, List.setIfInBounds_toArray, List.set_cons_zero, List.set_cons_succ]
  refine hs_done (by kernel_rfl) ?_
  have q0 : (w8.setCell ⟨p, o, none⟩ (.slice a' m cap')).cell? ⟨p, o, none⟩ = some (.slice a' m cap') := World.cell?_setCell_same _ _ _ ((B8.cell (p := ⟨p, o, none⟩) hp).trans h)
  have q3 := (B8.frozen (p := ⟨p, o + 1, none⟩) hp).trans hf1
  have c3 := c2 _ _ q0 (set_there q1 (by omega)) (by rw [World.frozen?_setCell]; exact q3)
  clear c2 c1 hS q0 q3
  go_wp2_with fail
  refine c3.mono ?_
  rintro e w9 ⟨rfl, rfl⟩
  go_wp2_with fail
  go_end0
  exact ⟨rfl, w8, B8, s8, rfl⟩
end Go.Proofs.YtfkchnjbbbhmjaaGreat
namespace Go.Proofs.YtfkchnjbbbhmjaaGreat
open Go.RowKit
section
variable {w : World} {t : Tv} {M : Mt}
theorem TapeAt.c0 (h : TapeAt w t M) : w.cell? ⟨t.p, 0, none⟩ = some (.bool true) := h.r 0 _ rfl
theorem TapeAt.c1 (h : TapeAt w t M) : w.cell? ⟨t.p, 1, none⟩ = some (.bool M.on) := h.r 1 _ rfl
theorem TapeAt.c2 (h : TapeAt w t M) : w.cell? ⟨t.p, 2, none⟩ = some (.int .i64 M.room) := h.r 2 _ rfl
theorem TapeAt.c3 (h : TapeAt w t M) : w.cell? ⟨t.p, 3, none⟩ = some t.va := h.r 3 _ rfl
theorem TapeAt.c4 (h : TapeAt w t M) : w.cell? ⟨t.p, 4, none⟩ = some (.int .i64 M.sa) := h.r 4 _ rfl
theorem TapeAt.c5 (h : TapeAt w t M) : w.cell? ⟨t.p, 5, none⟩ = some t.vb := h.r 5 _ rfl
theorem TapeAt.c6 (h : TapeAt w t M) : w.cell? ⟨t.p, 6, none⟩ = some (.int .i64 M.sb) := h.r 6 _ rfl
theorem TapeAt.c7 (h : TapeAt w t M) : w.cell? ⟨t.p, 7, none⟩ = some (.bool M.pl) := h.r 7 _ rfl
theorem TapeAt.c8 (h : TapeAt w t M) : w.cell? ⟨t.p, 8, none⟩ = some (.int .i64 t.x) := h.r 8 _ rfl
theorem TapeAt.c9 (h : TapeAt w t M) : w.cell? ⟨t.p, 9, none⟩ = some (.int .i64 t.y) := h.r 9 _ rfl
theorem TapeAt.c10 (h : TapeAt w t M) : w.cell? ⟨t.p, 10, none⟩ = some (.int .i64 M.ops) := h.r 10 _ rfl
theorem TapeAt.c11 (h : TapeAt w t M) : w.cell? ⟨t.p, 11, none⟩ = some (.int .i64 M.fa) := h.r 11 _ rfl
theorem TapeAt.fz (h : TapeAt w t M) (i : Nat) (hi : i < 12) : w.frozen? ⟨t.p, i, none⟩ = false := by
  have := (h.th i hi).2
  rwa [Nat.zero_add] at this
end
set_option maxRecDepth 100000 in
set_option maxHeartbeats 2000000 in
theorem isMade_any (t : Tv) (M : Mt) (w : World) (h : TapeAt w t M) :
    Calls Tryz.prog 50 #[tptr t] w fun e w' => e = .returned (.bool true) ∧ w' = w := by
  have h0 := h.c0
  clear h
  unfold tptr
  go_enter Tryz.func50, Tryz.ntmps50
  go_wp2_with fail
  go_ret
  exact ⟨rfl, rfl⟩
set_option maxRecDepth 100000 in
set_option maxHeartbeats 2000000 in
theorem isArea_any (pv : Value) (n : Int) (w : World) :
    Calls Tryz.prog 68 #[pv, .int .i64 n] w fun e w' => e = .returned (.bool (decide (n = 0 ∨ n = 1))) ∧ w' = w := by
  by_cases h0 : 0 ≤ n
  · by_cases h1 : n < 2
    · have hd : decide (n = 0 ∨ n = 1) = true := decide_eq_true (by omega)
      rw [hd]
      clear hd
      go_enter Tryz.func68, Tryz.ntmps68
      go_wp2_with fail
      go_ret
      exact ⟨rfl, rfl⟩
    · have hd : decide (n = 0 ∨ n = 1) = false := decide_eq_false (by omega)
      rw [hd]
      clear hd
      go_enter Tryz.func68, Tryz.ntmps68
      go_wp2_with fail
      go_ret
      exact ⟨rfl, rfl⟩
  · have hd : decide (n = 0 ∨ n = 1) = false := decide_eq_false (by omega)
    rw [hd]
    clear hd
    go_enter Tryz.func68, Tryz.ntmps68
    go_wp2_with fail
    go_ret
    exact ⟨rfl, rfl⟩
set_option maxRecDepth 100000 in
set_option maxHeartbeats 2000000 in
theorem reach_any (t : Tv) (M : Mt) (area : Int) (w : World) (h : TapeAt w t M) :
    Calls Tryz.prog 54 #[tptr t, .int .i64 area] w fun e w' => e = .returned (.int .i64 (M.fault area)) ∧ w' = w := by
  have c1 := isMade_any t M w h
  have c2 := isArea_any (tptr t) area w
  have h1 := h.c1
  unfold Mt.fault
  unfold tptr at *
  clear h
  by_cases ha : area = 0 ∨ area = 1
  · have hd : decide (area = 0 ∨ area = 1) = true := decide_eq_true ha
    rw [hd] at c2
    rw [if_pos ha]
    clear hd ha
    cases hon : M.on
    · rw [hon] at h1
      have HE : Hid ((if false = true then (0 : Int) else 150) = 150) := hide rfl
      rw [HE.out]
      clear hon HE
      go_enter Tryz.func54, Tryz.ntmps54
      go_wp2_with fail
      refine c1.mono ?_
      rintro e w' ⟨rfl, hw⟩
      obtain rfl := hw.symm
      clear c1 hw
      go_wp2_with fail
      refine c2.mono ?_
      rintro e w' ⟨rfl, hw⟩
      obtain rfl := hw.symm
      clear c2 hw
      go_wp2_with fail
      go_ret
      exact ⟨rfl, rfl⟩
    · rw [hon] at h1
      have HE : Hid ((if true = true then (0 : Int) else 150) = 0) := hide rfl
      rw [HE.out]
      clear hon HE
      go_enter Tryz.func54, Tryz.ntmps54
      go_wp2_with fail
      refine c1.mono ?_
      rintro e w' ⟨rfl, hw⟩
      obtain rfl := hw.symm
      clear c1 hw
      go_wp2_with fail
      refine c2.mono ?_
      rintro e w' ⟨rfl, hw⟩
      obtain rfl := hw.symm
      clear c2 hw
      go_wp2_with fail
      go_ret
      exact ⟨rfl, rfl⟩
  · have hd : decide (area = 0 ∨ area = 1) = false := decide_eq_false ha
    rw [hd] at c2
    rw [if_neg ha]
    clear hd ha
    go_enter Tryz.func54, Tryz.ntmps54
    go_wp2_with fail
    refine c1.mono ?_
    rintro e w' ⟨rfl, hw⟩
    obtain rfl := hw.symm
    clear c1 hw
    go_wp2_with fail
    refine c2.mono ?_
    rintro e w' ⟨rfl, hw⟩
    obtain rfl := hw.symm
    clear c2 hw
    go_wp2_with fail
    go_ret
    exact ⟨rfl, rfl⟩
set_option maxRecDepth 100000 in
set_option maxHeartbeats 2000000 in
theorem on_any (t : Tv) (M : Mt) (w : World) (h : TapeAt w t M) :
    Calls Tryz.prog 38 #[tptr t] w fun e w' => e = .returned (.bool M.on) ∧ w' = w := by
  have c1 := isMade_any t M w h
  have h1 := h.c1
  clear h
  unfold tptr at *
  go_enter Tryz.func38, Tryz.ntmps38
  go_wp2_with fail
  refine c1.mono ?_
  rintro e w' ⟨rfl, hw⟩
  obtain rfl := hw.symm
  clear c1 hw
  go_wp2_with fail
  go_ret
  exact ⟨rfl, rfl⟩
set_option maxRecDepth 100000 in
set_option maxHeartbeats 2000000 in
theorem counts_any (t : Tv) (M : Mt) (w : World) (h : TapeAt w t M) :
    Calls Tryz.prog 37 #[tptr t] w fun e w' => e = .returned (.tuple #[.int .i64 M.ops, .int .i64 M.fa]) ∧ Below w.heap.size w w' := by
  have c1 := isMade_any t M w h
  have h1 := h.c10
  have h2 := h.c11
  clear h
  unfold tptr at *
  go_enter Tryz.func37, Tryz.ntmps37
  go_wp2_with fail
  refine c1.mono ?_
  rintro e w' ⟨rfl, hw⟩
  obtain rfl := hw.symm
  clear c1 hw
  go_wp2_with fail
  go_quiet (fail)
  go_wp2_with fail
  go_ret2
  exact ⟨rfl, below_drewN (Below.refl _ _) _⟩
set_option maxRecDepth 100000 in
set_option maxHeartbeats 2000000 in
theorem sure_any (t : Tv) (M : Mt) (area : Int) (w : World) (h : TapeAt w t M) :
    Calls Tryz.prog 43 #[tptr t, .int .i64 area] w fun e w' => e = .returned (.int .i64 (if area = 0 then (M.sa : Int) else if area = 1 then (M.sb : Int) else 0)) ∧ w' = w := by
  have c1 := isMade_any t M w h
  have c2 := isArea_any (tptr t) area w
  have h1 := h.c4
  have h2 := h.c6
  unfold tptr at *
  clear h
  by_cases ha : area = 0
  · subst ha
    rw [if_pos rfl]
    rw [show decide ((0 : Int) = 0 ∨ (0 : Int) = 1) = true from rfl] at c2
    go_enter Tryz.func43, Tryz.ntmps43
    go_wp2_with fail
    refine c1.mono ?_
    rintro e w' ⟨rfl, hw⟩
    obtain rfl := hw.symm
    clear c1 hw
    go_wp2_with fail
    refine c2.mono ?_
    rintro e w' ⟨rfl, hw⟩
    obtain rfl := hw.symm
    clear c2 hw
    go_wp2_with fail
    go_ret
    exact ⟨rfl, rfl⟩
  · rw [if_neg ha]
    by_cases hb : area = 1
    · subst hb
      rw [if_pos rfl]
      rw [show decide ((1 : Int) = 0 ∨ (1 : Int) = 1) = true from rfl] at c2
      clear ha
      go_enter Tryz.func43, Tryz.ntmps43
      go_wp2_with fail
      refine c1.mono ?_
      rintro e w' ⟨rfl, hw⟩
      obtain rfl := hw.symm
      clear c1 hw
      go_wp2_with fail
      refine c2.mono ?_
      rintro e w' ⟨rfl, hw⟩
      obtain rfl := hw.symm
      clear c2 hw
      go_wp2_with fail
      go_ret
      exact ⟨rfl, rfl⟩
    · rw [if_neg hb]
      rw [show decide (area = 0 ∨ area = 1) = false from decide_eq_false (by omega)] at c2
      clear ha hb
      go_enter Tryz.func43, Tryz.ntmps43
      go_wp2_with fail
      refine c1.mono ?_
      rintro e w' ⟨rfl, hw⟩
      obtain rfl := hw.symm
      clear c1 hw
      go_wp2_with fail
      refine c2.mono ?_
      rintro e w' ⟨rfl, hw⟩
      obtain rfl := hw.symm
      clear c2 hw
      go_wp2_with fail
      go_ret
      exact ⟨rfl, rfl⟩
set_option maxRecDepth 100000 in
set_option maxHeartbeats 2000000 in
theorem used_any (t : Tv) (M : Mt) (w : World) (h : TapeAt w t M) :
    Calls Tryz.prog 39 #[tptr t] w fun e w' => e = .returned (.int .i64 ((M.a.length : Int) + M.b.length)) ∧ w' = w := by
  have c1 := isMade_any t M w h
  obtain ⟨a0, cap0, e0⟩ := owns_slice h.oa
  obtain ⟨a1, cap1, e1⟩ := owns_slice h.ob
  have h0 := h.c3
  have h1 := h.c5
  rw [e0] at h0
  rw [e1] at h1
  have s0 := size_any t.p 3 _ _ _ w h0
  have s1 := size_any t.p 5 _ _ _ w h1
  have hr := h.ok.rm
  have hl := h.ok.rl
  clear h e0 e1
  unfold tptr at *
  go_enter Tryz.func39, Tryz.ntmps39
  go_wp2_with fail
  refine c1.mono ?_
  rintro e w' ⟨rfl, hw⟩
  obtain rfl := hw.symm
  clear c1 hw
  go_wp2_with fail
  go_loopw [3, 8] (fun uv iv wr => wr = w ∧ ((iv = .int .i64 0 ∧ uv = .int .i64 0) ∨ (iv = .int .i64 1 ∧ uv = .int .i64 (M.a.length : Int)) ∨ (iv = .int .i64 2 ∧ uv = .int .i64 ((M.a.length : Int) + M.b.length)))) (fun _ iv _ => 2 - (intOf iv).toNat)
  case atStart => exact ⟨rfl, .inl ⟨rfl, rfl⟩⟩
  case round =>
    obtain ⟨hw, hc⟩ := hrel
    obtain rfl := hw.symm
    clear hw
    rcases hc with ⟨rfl, rfl⟩ | ⟨rfl, rfl⟩ | ⟨rfl, rfl⟩
    · go_wp2_with fail
      refine s0.mono ?_
      rintro e w' ⟨rfl, hw⟩
      obtain rfl := hw.symm
      clear s0 s1 hw
      go_wp2_with fail
      go_roundw
      case rel => first | exact ⟨trivial, .inr (.inl ⟨rfl, rfl⟩)⟩ | simp
      case measure => simp [intOf]
    · go_wp2_with fail
      refine s1.mono ?_
      rintro e w' ⟨rfl, hw⟩
      obtain rfl := hw.symm
      clear s0 s1 hw
      go_wp2_with fail
      go_roundw
      case rel => first | exact ⟨trivial, .inr (.inr ⟨rfl, rfl⟩)⟩ | simp
      case measure => simp [intOf]
    · go_wp2_with fail
      go_ret
      exact ⟨rfl, rfl⟩
end Go.Proofs.YtfkchnjbbbhmjaaGreat
namespace Go.Proofs.YtfkchnjbbbhmjaaGreat
open Go.RowKit
/-- one block was written; what it holds -/
structure CellsAt (w wr : World) (p : Nat) (cs : List Value) : Prop where
  off : Off (fun b => b = p) w wr
  r : wr.rangeAt p 0 cs
  th : wr.there p 0 12
theorem CellsAt.start {w : World} {t : Tv} {M : Mt} (h : TapeAt w t M) : CellsAt w w t.p (tcells t M) := ⟨Off.refl _ _, h.r, h.th⟩
theorem CellsAt.set {w wr : World} {p : Nat} {cs : List Value} (h : CellsAt w wr p cs) (i : Nat) (v : Value) : CellsAt w (wr.setCell ⟨p, i, none⟩ v) p (cs.set i v) :=
  ⟨h.off.trans (Off.of_setCell (F := fun b => b = p) wr _ _ rfl) (fun _ _ q => q), by have := range_set h.r i v; rwa [Nat.zero_add] at this, there_set h.th _ _⟩
theorem CellsAt.below {w wr wr' : World} {p : Nat} {cs : List Value} (h : CellsAt w wr p cs) (hb : Below wr.heap.size wr wr') : CellsAt w wr' p cs :=
  have hp := there_lt h.th (by omega)
  ⟨h.off.below_r hb, range_at h.r (hb.block p hp), there_at h.th (hb.block p hp)⟩
theorem CellsAt.cell {w wr : World} {p : Nat} {cs : List Value} (h : CellsAt w wr p cs) (i : Nat) {v : Value} (hv : cs[i]? = some v) : wr.cell? ⟨p, i, none⟩ = some v := by
  have := h.r i v hv
  rwa [Nat.zero_add] at this
theorem CellsAt.fz {w wr : World} {p : Nat} {cs : List Value} (h : CellsAt w wr p cs) (i : Nat) (hi : i < 12) : wr.frozen? ⟨p, i, none⟩ = false := by
  have := (h.th i hi).2
  rwa [Nat.zero_add] at this
theorem TapeAt.of_cells {w wr : World} {t : Tv} {M : Mt} (h : CellsAt w wr t.p (tcells t M)) (oa : w.ownsRow 0 5 1 t.va M.a.length (v8 M.a)) (ob : w.ownsRow 0 5 1 t.vb M.b.length (v8 M.b))
    (ap : ∀ g, t.va.ownBlock = some g → g ≠ t.p ∧ t.vb.ownBlock ≠ some g) (bp : ∀ g, t.vb.ownBlock = some g → g ≠ t.p) (px : M.pl = true → t.x = M.af ∧ t.y = M.ke) (ok : M.ok) : TapeAt wr t M :=
  ⟨h.r, h.th, owns_at oa (fun g hg => h.off.2 g (owns_lt oa hg) (ap g hg).1), owns_at ob (fun g hg => h.off.2 g (owns_lt ob hg) (bp g hg)), ap, bp, px, ok⟩
theorem Turned.of_cells {w wr : World} {t t' : Tv} {M M' : Mt} (h : TapeAt w t M) (hc : CellsAt w wr t.p (tcells t' M')) (hp : t'.p = t.p) (oa : w.ownsRow 0 5 1 t'.va M'.a.length (v8 M'.a)) (ob : w.ownsRow 0 5 1 t'.vb M'.b.length (v8 M'.b))
    (ea : t'.va.ownBlock = none ∨ t'.va.ownBlock = t.va.ownBlock) (eb : t'.vb.ownBlock = none ∨ t'.vb.ownBlock = t.vb.ownBlock) (px : M'.pl = true → t'.x = M'.af ∧ t'.y = M'.ke) (ok : M'.ok) : Turned w wr t M' := by
  have ea' : ∀ g, t'.va.ownBlock = some g → t.va.ownBlock = some g := fun g hg => by
    rcases ea with q | q
    · rw [q] at hg; cases hg
    · rw [← q]; exact hg
  have eb' : ∀ g, t'.vb.ownBlock = some g → t.vb.ownBlock = some g := fun g hg => by
    rcases eb with q | q
    · rw [q] at hg; cases hg
    · rw [← q]; exact hg
  refine ⟨t', hp, TapeAt.of_cells (by rw [hp]; exact hc) oa ob (fun g hg => ?_) (fun g hg => ?_) px ok, hc.off.mono (fun b _ q => .inl q), fun b hb => ?_⟩
  · rw [hp]
    exact ⟨(h.ap g (ea' g hg)).1, fun q => (h.ap g (ea' g hg)).2 (eb' g q)⟩
  · rw [hp]; exact h.bp g (eb' g hg)
  · rcases hb with q | q | q
    · exact .inl (.inl (q.trans hp))
    · exact .inl (.inr (.inl (ea' b q)))
    · exact .inl (.inr (.inr (eb' b q)))
def newTv (w : World) : Tv := ⟨w.heap.size, .slice none 0 0, .slice none 0 0, 0, 0⟩
set_option maxRecDepth 100000 in
set_option maxHeartbeats 2000000 in
theorem new_yes (room : Int) (w : World) (h0 : 0 ≤ room) (h1 : room ≤ 1073741824) :
    Calls Tryz.prog 6 #[.int .i64 room] w fun e w' => e = .returned (tptr (newTv w)) ∧ Below w.heap.size w w' ∧ TapeAt w' (newTv w) (Mt.new room) := by
  have hr := range_new w (tcells (newTv w) (Mt.new room)).toArray 65
  have ht := there_new w (tcells (newTv w) (Mt.new room)).toArray 65
  have hB : Below w.heap.size w (w.alloc (.cells (tcells (newTv w) (Mt.new room)).toArray 65)) := (Below.refl _ _).alloc (Nat.le_refl _) _
  have hT : TapeAt (w.alloc (.cells (tcells (newTv w) (Mt.new room)).toArray 65)) (newTv w) (Mt.new room) :=
    ⟨hr, ht, World.ownsRow_nil _ _ _ _, World.ownsRow_nil _ _ _ _, (fun g hg => by simp [newTv, Value.ownBlock] at hg), (fun g hg => by simp [newTv, Value.ownBlock] at hg), (fun q => by cases q), Mt.ok.new h0 h1⟩
  have HP := hide (And.intro hB hT)
  clear hB hT hr ht
  have e : (tcells (newTv w) (Mt.new room)).toArray = #[.bool true, .bool true, .int .i64 room, .slice none 0 0, .int .i64 0, .slice none 0 0, .int .i64 0, .bool false, .int .i64 0, .int .i64 0, .int .i64 0, .int .i64 0] := rfl
  rw [e] at HP
  clear e
  unfold tptr
  go_enter Tryz.func6, Tryz.ntmps6
  go_wp2_with fail
  go_ret
  exact ⟨rfl, HP.out.1, HP.out.2⟩
set_option maxRecDepth 100000 in
set_option maxHeartbeats 2000000 in
theorem new_no (room : Int) (w : World) (h : room < 0 ∨ 1073741824 < room) :
    Calls Tryz.prog 6 #[.int .i64 room] w fun e w' => e = .returned (.pointer none) ∧ w' = w := by
  by_cases h0 : room < 0
  · clear h
    go_enter Tryz.func6, Tryz.ntmps6
    go_wp2_with fail
    go_ret
    exact ⟨rfl, rfl⟩
  · have h1 : 1073741824 < room := by omega
    clear h
    go_enter Tryz.func6, Tryz.ntmps6
    go_wp2_with fail
    go_ret
    exact ⟨rfl, rfl⟩
set_option maxRecDepth 100000 in
set_option maxHeartbeats 2000000 in
theorem power_any (t : Tv) (M : Mt) (w : World) (h : TapeAt w t M) :
    Calls Tryz.prog 23 #[tptr t] w fun e w' => e = .returned (.int .i64 0) ∧ Turned w w' t { M with on := true } := by
  have c1 := isMade_any t M w h
  have q1 := h.c1
  have f1 := h.fz 1 (by omega)
  have HT : Hid (Turned w (w.setCell ⟨t.p, 1, none⟩ (.bool true)) t { M with on := true }) := hide (Turned.of_cells h ((CellsAt.start h).set 1 (.bool true)) rfl h.oa h.ob (.inr rfl) (.inr rfl) h.px h.ok.power)
  clear h
  unfold tptr at *
  go_enter Tryz.func23, Tryz.ntmps23
  go_wp2_with fail
  refine c1.mono ?_
  rintro e w' ⟨rfl, hw⟩
  obtain rfl := hw.symm
  clear c1 hw
  go_wp2_with fail
  go_ret
  exact ⟨rfl, HT.out⟩
set_option maxRecDepth 100000 in
set_option maxHeartbeats 2000000 in
theorem arm_any (t : Tv) (M : Mt) (n keep : Int) (w : World) (h : TapeAt w t M) (hn : n ≤ 9223372036854775807) :
    Calls Tryz.prog 26 #[tptr t, .int .i64 n, .int .i64 keep] w fun e w' => e = .returned (.int .i64 (M.arm n keep).1) ∧ Turned w w' t (M.arm n keep).2 := by
  have c1 := isMade_any t M w h
  have q1 := h.c1
  have q7 := h.c7
  have q8 := h.c8
  have q9 := h.c9
  have f7 := h.fz 7 (by omega)
  have f8 := h.fz 8 (by omega)
  have f9 := h.fz 9 (by omega)
  have hok := h.ok.arm hn keep
  unfold Mt.arm at *
  unfold tptr at *
  by_cases hn0 : n < 0
  · rw [if_pos hn0]
    have HT : Hid (Turned w w t M) := hide (Turned.same h (Below.refl _ _))
    clear h hok
    go_enter Tryz.func26, Tryz.ntmps26
    go_wp2_with fail
    refine c1.mono ?_
    rintro e w' ⟨rfl, hw⟩
    obtain rfl := hw.symm
    clear c1 hw
    go_wp2_with fail
    go_ret
    exact ⟨rfl, HT.out⟩
  · rw [if_neg hn0] at hok ⊢
    by_cases hon : M.on = true
    rotate_left
    · rw [if_neg hon]
      have hon : M.on = false := by simpa using hon
      rw [hon] at q1
      have HT : Hid (Turned w w t M) := hide (Turned.same h (Below.refl _ _))
      clear h hok hon
      go_enter Tryz.func26, Tryz.ntmps26
      go_wp2_with fail
      refine c1.mono ?_
      rintro e w' ⟨rfl, hw⟩
      obtain rfl := hw.symm
      clear c1 hw
      go_wp2_with fail
      go_ret
      exact ⟨rfl, HT.out⟩
    · rw [hon] at q1
      rw [if_pos hon] at hok
      rw [if_pos hon]
      have HT : Hid (Turned w (((w.setCell ⟨t.p, 7, none⟩ (.bool true)).setCell ⟨t.p, 8, none⟩ (.int .i64 n)).setCell ⟨t.p, 9, none⟩ (.int .i64 keep)) t { M with pl := true, af := n, ke := keep }) :=
        hide (Turned.of_cells (t' := { t with x := n, y := keep }) h ((((CellsAt.start h).set 7 (.bool true)).set 8 (.int .i64 n)).set 9 (.int .i64 keep)) rfl h.oa h.ob (.inr rfl) (.inr rfl) (fun _ => ⟨rfl, rfl⟩) hok)
      clear h hok hon
      go_enter Tryz.func26, Tryz.ntmps26
      go_wp2_with fail
      refine c1.mono ?_
      rintro e w' ⟨rfl, hw⟩
      obtain rfl := hw.symm
      clear c1 hw
      go_wp2_with fail
      go_ret
      exact ⟨rfl, HT.out⟩
end Go.Proofs.YtfkchnjbbbhmjaaGreat
namespace Go.Proofs.YtfkchnjbbbhmjaaGreat
open Go.RowKit
theorem v8_take (xs : List Int) (n : Nat) : v8 (xs.take n) = (v8 xs).take n := by simp [v8, List.map_take]
theorem cut_row {B m : Nat} {v : Value} {xs : List Int} {w : World} (ho : w.ownsRow B 5 1 v xs.length (v8 xs)) (hm : m ≤ xs.length) : w.ownsRow B 5 1 (cutV v m) (xs.take m).length (v8 (xs.take m)) := by
  have := (cut_owns ho hm).1
  rw [v8_take, List.length_take, Nat.min_eq_left hm]
  exact this
def lostTv (t : Tv) (M : Mt) (keep : Int) : Tv := ⟨t.p, cutV t.va (keptN keep M.a.length M.sa), cutV t.vb (keptN keep M.b.length M.sb), 0, 0⟩
theorem lost_turned {w wr : World} {t : Tv} {M : Mt} (h : TapeAt w t M) (keep : Int) (hc : CellsAt w wr t.p (tcells (lostTv t M keep) (M.lose keep))) : Turned w wr t (M.lose keep) :=
  Turned.of_cells h hc rfl (cut_row h.oa (keptN_le keep h.ok.sa)) (cut_row h.ob (keptN_le keep h.ok.sb)) (.inr (cut_owns h.oa (keptN_le keep h.ok.sa)).2) (.inr (cut_owns h.ob (keptN_le keep h.ok.sb)).2) (fun q => by cases q) (h.ok.lose keep)
set_option maxRecDepth 100000 in
set_option maxHeartbeats 2000000 in
theorem lose_any (t : Tv) (M : Mt) (keep : Int) (w : World) (h : TapeAt w t M) :
    Calls Tryz.prog 51 #[tptr t, .int .i64 keep] w fun e w' => e = .returned (.tuple #[]) ∧ Turned w w' t (M.lose keep) := by
  obtain ⟨n0, hn0⟩ : ∃ n, Hid (keptN keep M.a.length M.sa = n) := ⟨_, hide rfl⟩
  obtain ⟨n1, hn1⟩ : ∃ n, Hid (keptN keep M.b.length M.sb = n) := ⟨_, hide rfl⟩
  obtain ⟨u0, hu0⟩ : ∃ u, Hid (cutV t.va n0 = u) := ⟨_, hide rfl⟩
  obtain ⟨u1, hu1⟩ : ∃ u, Hid (cutV t.vb n1 = u) := ⟨_, hide rfl⟩
  have hrm := h.ok.rm
  have hrl := h.ok.rl
  have k0 := fun wr (hc : CellsAt w wr t.p (tcells t M)) => loseA_any t.p 3 M.a.length M.sa 0 keep t.va (v8 M.a) wr (owns_at h.oa (fun g hg => hc.off.2 g (owns_lt h.oa hg) (h.ap g hg).1)) (by omega) h.ok.sa (hc.cell 3 rfl) (hc.fz 3 (by omega)) (hc.cell 4 rfl) (hc.fz 4 (by omega))
  have k1 := fun wr (hc : CellsAt w wr t.p (((tcells t M).set 3 u0).set 4 (.int .i64 (n0 : Int)))) => loseA_any t.p 5 M.b.length M.sb 0 keep t.vb (v8 M.b) wr (owns_at h.ob (fun g hg => hc.off.2 g (owns_lt h.ob hg) (h.bp g hg))) (by omega) h.ok.sb (hc.cell 5 rfl) (hc.fz 5 (by omega)) (hc.cell 6 rfl) (hc.fz 6 (by omega))
  simp only [hn0.out, hu0.out] at k0
  simp only [hn1.out, hu1.out] at k1
  have HF : Hid (∀ wr, CellsAt w wr t.p ((((((((((tcells t M).set 3 u0).set 4 (.int .i64 (n0 : Int))).set 5 u1).set 6 (.int .i64 (n1 : Int))).set 1 (.bool false)).set 7 (.bool false)).set 8 (.int .i64 0)).set 9 (.int .i64 0)).set 11 (.int .i64 (wrap64 (M.fa + 1)))) → Turned w wr t (M.lose keep)) := hide (fun wr hc => by
    refine lost_turned h keep ?_
    unfold lostTv Mt.lose
    rw [hn0.out, hn1.out, hu0.out, hu1.out]
    exact hc)
  have hC := CellsAt.start h
  clear h hn0 hn1 hu0 hu1 hrm hrl
  unfold tptr
  go_enter Tryz.func51, Tryz.ntmps51
  go_wp2_with fail
  go_loopw [5] (fun iv wr => (iv = .int .i64 0 ∧ CellsAt w wr t.p (tcells t M)) ∨ (iv = .int .i64 1 ∧ CellsAt w wr t.p (((tcells t M).set 3 u0).set 4 (.int .i64 (n0 : Int)))) ∨ (iv = .int .i64 2 ∧ CellsAt w wr t.p (((((tcells t M).set 3 u0).set 4 (.int .i64 (n0 : Int))).set 5 u1).set 6 (.int .i64 (n1 : Int))))) (fun iv _ => 2 - (intOf iv).toNat)
  case atStart => exact .inl ⟨rfl, hC⟩
  case round =>
    clear hC
    rcases hrel with ⟨rfl, hc⟩ | ⟨rfl, hc⟩ | ⟨rfl, hc⟩
    · go_wp2_with fail
      refine (k0 wr hc).mono ?_
      rintro e w' ⟨rfl, w1, b1, -, rfl⟩
      have hc1 := ((hc.below b1).set 3 u0).set 4 (.int .i64 (n0 : Int))
      clear k0 k1 hc b1
      obtain ⟨w9, hw9⟩ : ∃ w9, (w1.setCell ⟨t.p, 3, none⟩ u0).setCell ⟨t.p, 3 + 1, none⟩ (.int .i64 (n0 : Int)) = w9 := ⟨_, rfl⟩
      rw [hw9] at hc1 ⊢
      clear hw9
      go_wp2_with fail
      go_roundw
      case rel => exact .inr (.inl ⟨rfl, hc1⟩)
      case measure => simp [intOf]
    · go_wp2_with fail
      refine (k1 wr hc).mono ?_
      rintro e w' ⟨rfl, w1, b1, -, rfl⟩
      have hc1 := ((hc.below b1).set 5 u1).set 6 (.int .i64 (n1 : Int))
      clear k0 k1 hc b1
      obtain ⟨w9, hw9⟩ : ∃ w9, (w1.setCell ⟨t.p, 5, none⟩ u1).setCell ⟨t.p, 5 + 1, none⟩ (.int .i64 (n1 : Int)) = w9 := ⟨_, rfl⟩
      rw [hw9] at hc1 ⊢
      clear hw9
      go_wp2_with fail
      go_roundw
      case rel => exact .inr (.inr ⟨rfl, hc1⟩)
      case measure => simp [intOf]
    · have q1 := hc.cell 1 rfl
      have q7 := hc.cell 7 rfl
      have q8 := hc.cell 8 rfl
      have q9 := hc.cell 9 rfl
      have q11 := hc.cell 11 rfl
      have f1 := hc.fz 1 (by omega)
      have f7 := hc.fz 7 (by omega)
      have f8 := hc.fz 8 (by omega)
      have f9 := hc.fz 9 (by omega)
      have f11 := hc.fz 11 (by omega)
      have HX := hide (HF.out _ (((((hc.set 1 (.bool false)).set 7 (.bool false)).set 8 (.int .i64 0)).set 9 (.int .i64 0)).set 11 (.int .i64 (wrap64 (M.fa + 1)))))
      clear hc HF k0 k1
      go_wp2_with fail
      go_end0
      exact ⟨rfl, HX.out⟩
set_option maxRecDepth 100000 in
set_option maxHeartbeats 2000000 in
theorem fail_any (t : Tv) (M : Mt) (keep : Int) (w : World) (h : TapeAt w t M) :
    Calls Tryz.prog 22 #[tptr t, .int .i64 keep] w fun e w' => e = .returned (.int .i64 (M.fail keep).1) ∧ Turned w w' t (M.fail keep).2 := by
  have c1 := isMade_any t M w h
  have c2 := lose_any t M keep w h
  have q1 := h.c1
  unfold Mt.fail
  unfold tptr at *
  by_cases hon : M.on = true
  · rw [if_pos hon]
    rw [hon] at q1
    clear h hon
    go_enter Tryz.func22, Tryz.ntmps22
    go_wp2_with fail
    refine c1.mono ?_
    rintro e w' ⟨rfl, hw⟩
    obtain rfl := hw.symm
    clear c1 hw
    go_wp2_with fail
    refine c2.mono ?_
    rintro e w' ⟨rfl, hw⟩
    clear c2
    go_wp2_with fail
    go_ret
    exact ⟨rfl, hw⟩
  · rw [if_neg hon]
    have hon : M.on = false := by simpa using hon
    rw [hon] at q1
    have HT : Hid (Turned w w t M) := hide (Turned.same h (Below.refl _ _))
    clear h hon c2
    go_enter Tryz.func22, Tryz.ntmps22
    go_wp2_with fail
    refine c1.mono ?_
    rintro e w' ⟨rfl, hw⟩
    obtain rfl := hw.symm
    clear c1 hw
    go_wp2_with fail
    go_ret
    exact ⟨rfl, HT.out⟩
end Go.Proofs.YtfkchnjbbbhmjaaGreat
namespace Go.Proofs.YtfkchnjbbbhmjaaGreat
open Go.RowKit
set_option maxRecDepth 100000 in
set_option maxHeartbeats 2000000 in
theorem put_any (p o n : Nat) (v : Value) (xs : List Value) (a : Option Addr) (cap : Nat) (zs : List Int) (w : World) (ho : w.ownsRow 0 5 1 v n xs) (hz : RowAt w a zs) (hn : n + zs.length ≤ 1073741824) (hc : w.cell? ⟨p, o, none⟩ = some v) (hf : w.frozen? ⟨p, o, none⟩ = false) (hp : v.ownBlock ≠ some p) :
    Calls Tryz.prog 57 #[.pointer (some ⟨p, o, none⟩), .slice a zs.length cap] w fun e w' => e = .returned (.tuple #[]) ∧ ∃ v' w1, w1.ownsRow 0 5 1 v' (n + zs.length) (xs ++ v8 zs) ∧ w.grownBy w1 v.ownBlock ∧ (∀ g, v'.ownBlock = some g → v.ownBlock = some g ∨ g = w.heap.size) ∧ w' = w1.setCell ⟨p, o, none⟩ v' := by
  obtain ⟨i1, hi1, hiz, his, hib⟩ := info_parts info8
  have hsrc := hz.src cap
  have hpl : p < w.heap.size := World.block_lt_of_cell? w _ hc
  obtain ⟨va, vc, hva⟩ := owns_slice ho
  subst hva
  go_enter Tryz.func57, Tryz.ntmps57
  go_wp2_with (at_builtin; refine wpList_append_own_src2 _ rfl _ _ 35 35 rfl 0 5 i1 (.int .u8 0) 1 1 Tryz.underlying35 hi1 hiz his hib rfl _ n xs rfl ho (.slice a zs.length cap) zs.length (v8 zs) rfl hsrc ?c1 ?c2 ?c3 ?_)
  case c1 => unfold maxLen; omega
  case c2 => omega
  case c3 => omega
  intro v2 w2 hown2 hgrow2 hap2
  have hb : w2.heap[p]? = w.heap[p]? := hgrow2.block p hpl (fun e => hp e.symm)
  have hc2 := cell_at hc hb
  have hf2 : w2.frozen? ⟨p, o, none⟩ = false := by rw [← hf]; simp [World.frozen?, hb]
  obtain ⟨va2, vc2, hva2⟩ := owns_slice hown2
  subst hva2
  clear hc hf ho hsrc hz
  go_wp2_with fail
  go_end0
  exact ⟨rfl, _, w2, hown2, hgrow2, hap2, rfl⟩
/-- where an area lies in a tape -/
def offA (k : Bool) : Nat := match k with | false => 3 | true => 5
def areaP (t : Tv) (k : Bool) : Value := .pointer (some ⟨t.p, offA k, none⟩)
def Tv.v (t : Tv) (k : Bool) : Value := match k with | false => t.va | true => t.vb
theorem TapeAt.ck {w : World} {t : Tv} {M : Mt} (h : TapeAt w t M) (k : Bool) : w.cell? ⟨t.p, offA k, none⟩ = some (t.v k) := by
  cases k
  · exact h.c3
  · exact h.c5
theorem TapeAt.sk {w : World} {t : Tv} {M : Mt} (h : TapeAt w t M) (k : Bool) : w.cell? ⟨t.p, offA k + 1, none⟩ = some (.int .i64 (M.sr k : Int)) := by
  cases k
  · exact h.c4
  · exact h.c6
theorem TapeAt.fk {w : World} {t : Tv} {M : Mt} (h : TapeAt w t M) (k : Bool) : w.frozen? ⟨t.p, offA k, none⟩ = false ∧ w.frozen? ⟨t.p, offA k + 1, none⟩ = false := by
  cases k
  · exact ⟨h.fz 3 (by omega), h.fz 4 (by omega)⟩
  · exact ⟨h.fz 5 (by omega), h.fz 6 (by omega)⟩
theorem TapeAt.ok' {w : World} {t : Tv} {M : Mt} (h : TapeAt w t M) (k : Bool) : w.ownsRow 0 5 1 (t.v k) (M.get k).length (v8 (M.get k)) := by
  cases k
  · exact h.oa
  · exact h.ob
theorem TapeAt.np {w : World} {t : Tv} {M : Mt} (h : TapeAt w t M) (k : Bool) : (t.v k).ownBlock ≠ some t.p := by
  cases k
  · exact fun q => (h.ap _ q).1 rfl
  · exact fun q => h.bp _ q rfl
theorem settle_turned {w w' : World} {t : Tv} {M : Mt} (h : TapeAt w t M) (k : Bool) (hw : w' = w.setCell ⟨t.p, offA k + 1, none⟩ (.int .i64 ((M.get k).length : Int))) : Turned w w' t (M.settle k) := by
  subst hw
  cases k
  · exact Turned.of_cells h ((CellsAt.start h).set 4 _) rfl h.oa h.ob (.inr rfl) (.inr rfl) h.px (h.ok.settle false)
  · exact Turned.of_cells h ((CellsAt.start h).set 6 _) rfl h.oa h.ob (.inr rfl) (.inr rfl) h.px (h.ok.settle true)
theorem empty_turned {w w' : World} {t : Tv} {M : Mt} (h : TapeAt w t M) (k : Bool) (hw : w' = (w.setCell ⟨t.p, offA k, none⟩ (.slice none 0 0)).setCell ⟨t.p, offA k + 1, none⟩ (.int .i64 0)) : Turned w w' t (M.clear k) := by
  subst hw
  cases k
  · exact Turned.of_cells (t' := { t with va := .slice none 0 0 }) h (((CellsAt.start h).set 3 _).set 4 _) rfl (World.ownsRow_nil _ _ _ _) h.ob (.inl rfl) (.inr rfl) h.px (h.ok.clear false)
  · exact Turned.of_cells (t' := { t with vb := .slice none 0 0 }) h (((CellsAt.start h).set 5 _).set 6 _) rfl h.oa (World.ownsRow_nil _ _ _ _) (.inr rfl) (.inl rfl) h.px (h.ok.clear true)
theorem put_turned {w w1 w' : World} {t : Tv} {M : Mt} (h : TapeAt w t M) (k : Bool) (zs : List Int) (hok : (Mt.put zs k M).ok) {v' : Value} (ho : w1.ownsRow 0 5 1 v' ((M.get k).length + zs.length) (v8 (M.get k) ++ v8 zs)) (hg : w.grownBy w1 (t.v k).ownBlock)
    (hap : ∀ g, v'.ownBlock = some g → (t.v k).ownBlock = some g ∨ g = w.heap.size) (hw : w' = w1.setCell ⟨t.p, offA k, none⟩ v') : Turned w w' t (Mt.put zs k M) := by
  subst hw
  have hpl := h.mono_x
  have hb : ∀ b, b < w.heap.size → (t.v k).ownBlock ≠ some b → w1.heap[b]? = w.heap[b]? := fun b h1 h2 => hg.block b h1 (fun e => h2 e.symm)
  have hp := hb t.p hpl (h.np k)
  have ho' : w1.ownsRow 0 5 1 v' (M.get k ++ zs).length (v8 (M.get k ++ zs)) := by rw [v8_append, List.length_append]; exact ho
  have hO : Off t.own w (w1.setCell ⟨t.p, offA k, none⟩ v') := (Off.of_grown (F := t.own) hg (fun g q => by cases k; exact .inr (.inl q); exact .inr (.inr q))).trans (Off.of_setCell (F := t.own) w1 _ _ (.inl rfl)) (fun _ _ q => q)
  have hC : CellsAt w1 w1 t.p (tcells t M) := ⟨Off.refl _ _, range_at h.r hp, there_at h.th hp⟩
  have hlt : ∀ g, v'.ownBlock = some g → g ≠ t.p := fun g q e => by
    rcases hap g q with q1 | q1
    · exact h.np k (e ▸ q1)
    · omega
  cases k
  · refine ⟨{ t with va := v' }, rfl, TapeAt.of_cells (hC.set 3 v') ho' (owns_at h.ob (fun g q => hb g (owns_lt h.ob q) (fun e => (h.ap g e).2 q))) (fun g q => ⟨hlt g q, fun e => ?_⟩) h.bp h.px hok, hO, ?_⟩
    · rcases hap g q with q1 | q1
      · exact (h.ap g q1).2 e
      · have := owns_lt h.ob e; omega
    · rintro b (q | q | q)
      · exact .inl (.inl q)
      · rcases hap b q with q1 | q1
        · exact .inl (.inr (.inl q1))
        · exact .inr (by omega)
      · exact .inl (.inr (.inr q))
  · refine ⟨{ t with vb := v' }, rfl, TapeAt.of_cells (hC.set 5 v') (owns_at h.oa (fun g q => hb g (owns_lt h.oa q) (fun e => (h.ap g q).2 e))) ho' (fun g q => ⟨(h.ap g q).1, fun e => ?_⟩) hlt h.px hok, hO, ?_⟩
    · rcases hap g e with q1 | q1
      · exact (h.ap g q).2 q1
      · have := owns_lt h.oa q; omega
    · rintro b (q | q | q)
      · exact .inl (.inl q)
      · exact .inl (.inr (.inl q))
      · rcases hap b q with q1 | q1
        · exact .inl (.inr (.inr q1))
        · exact .inr (by omega)
set_option maxRecDepth 100000 in
set_option maxHeartbeats 2000000 in
theorem sync1_any (t : Tv) (M : Mt) (k : Bool) (w : World) (h : TapeAt w t M) :
    Calls Tryz.prog 72 #[areaP t k] w fun e w' => e = .returned (.tuple #[]) ∧ Turned w w' t (M.settle k) := by
  obtain ⟨a, cap, hv⟩ := owns_slice (h.ok' k)
  have hc := h.ck k
  rw [hv] at hc
  have c1 := settle_any t.p (offA k) a _ cap _ w hc (h.sk k) (h.fk k).2
  have HT := hide (settle_turned h k rfl)
  clear h hc hv
  unfold areaP
  generalize offA k = o at *
  go_enter Tryz.func72, Tryz.ntmps72
  go_wp2_with fail
  refine c1.mono ?_
  rintro e w' ⟨rfl, rfl⟩
  clear c1
  go_wp2_with fail
  go_end0
  exact ⟨rfl, HT.out⟩
set_option maxRecDepth 100000 in
set_option maxHeartbeats 2000000 in
theorem clear1_any (t : Tv) (M : Mt) (k : Bool) (w : World) (h : TapeAt w t M) :
    Calls Tryz.prog 60 #[areaP t k] w fun e w' => e = .returned (.tuple #[]) ∧ Turned w w' t (M.clear k) := by
  have c1 := empty_any t.p (offA k) _ _ w (h.ck k) (h.fk k).1 (h.sk k) (h.fk k).2
  have HT := hide (empty_turned h k rfl)
  clear h
  unfold areaP
  generalize offA k = o at *
  go_enter Tryz.func60, Tryz.ntmps60
  go_wp2_with fail
  refine c1.mono ?_
  rintro e w' ⟨rfl, rfl⟩
  clear c1
  go_wp2_with fail
  go_end0
  exact ⟨rfl, HT.out⟩
set_option maxRecDepth 100000 in
set_option maxHeartbeats 2000000 in
theorem app1_any (t : Tv) (M : Mt) (k : Bool) (X : Nat) (a : Option Addr) (cap : Nat) (zs : List Int) (w : World) (h : TapeAt w t M) (hX : w.cell? ⟨X, 0, none⟩ = some (.slice a zs.length cap)) (hXo : ¬ t.own X) (hz : RowAt w a zs) (hok : (Mt.put zs k M).ok) :
    Calls Tryz.prog 56 #[areaP t k, .pointer (some ⟨X, 0, none⟩)] w fun e w' => e = .returned (.tuple #[]) ∧ Turned w w' t (Mt.put zs k M) := by
  have hXl : X < w.heap.size := World.block_lt_of_cell? w _ hX
  have hl : (M.get k).length + zs.length ≤ 1073741824 := by
    have h1 := hok.rm
    have h2 := hok.rl
    cases k
    · simp only [Mt.put, Mt.setA, Mt.get, List.length_append] at *; omega
    · simp only [Mt.put, Mt.setA, Mt.get, List.length_append] at *; omega
  have c1 := fun w0 (hb : Below w.heap.size w w0) => put_any t.p (offA k) _ _ _ a cap zs w0 ((h.below hb).ok' k) (hz.below hb) hl ((h.below hb).ck k) ((h.below hb).fk k).1 (h.np k)
  have HT : Hid (∀ w0, Below w.heap.size w w0 → ∀ (v' : Value) (w1 : World), w1.ownsRow 0 5 1 v' ((M.get k).length + zs.length) (v8 (M.get k) ++ v8 zs) → w0.grownBy w1 (t.v k).ownBlock → (∀ g, v'.ownBlock = some g → (t.v k).ownBlock = some g ∨ g = w0.heap.size) → Turned w (w1.setCell ⟨t.p, offA k, none⟩ v') t (Mt.put zs k M)) :=
    hide (fun w0 hb v' w1 k1 k2 k3 => by
      obtain ⟨t', e1, e2, e3, e4⟩ := put_turned (h.below hb) k zs hok k1 k2 k3 rfl
      refine ⟨t', e1, e2, (Off.of_below hb).trans e3 (fun _ _ q => q), fun b q => ?_⟩
      rcases e4 b q with q1 | q1
      · exact .inl q1
      · right; have := hb.size; omega)
  clear h hz hok hl
  unfold areaP
  generalize offA k = o at *
  go_enter Tryz.func56, Tryz.ntmps56
  go_wp2_with fail
  obtain ⟨w8, hw8⟩ : ∃ w8, w.drew = w8 := ⟨_, rfl⟩
  have B8 : Below w.heap.size w w8 := by rw [← hw8]; exact (Below.refl _ _).drew
  have q1 : w8.cell? ⟨X, 0, none⟩ = some (.slice a zs.length cap) := by rw [← hw8]; exact hX
  refine hs_begin (S := fun w' : World => w'.cell? ⟨X, 0, none⟩ = some (.slice a zs.length cap)) 5 rfl (by kernel_rfl) ?_
  rw [hw8]
  clear hw8
  have hS : (fun w' : World => w'.cell? ⟨X, 0, none⟩ = some (.slice a zs.length cap)) w8 := q1
  refine hs_take (i := 0) (d := some 3) (v := ?_) rfl (by kernel_rfl) (by kernel_rfl) (by kernel_rfl) (by rfl) ?_ hS rfl ?_
  rotate_left
  · intro w' hw
    go_simp
    try with_reducible rfl
  simp only [Act.put, List.setIfInBounds_toArray, List.set_cons_zero, List.set_cons_succ]
  refine hs_take (i := 1) (d := some 4) (v := ?_) rfl (by kernel_rfl) (by kernel_rfl) (by kernel_rfl) (by rfl) ?_ hS rfl ?_
  rotate_left
  · intro w' hw
    go_simp
    try with_reducible rfl
  simp only [Act.put, List.setIfInBounds_toArray, List.set_cons_zero, List.set_cons_succ]
  refine hs_take (i := 2) (d := some 5) (v := ?_) rfl (by kernel_rfl) (by kernel_rfl) (by kernel_rfl) (by rfl) ?_ hS rfl ?_
  rotate_left
  · intro w' hw
    go_simp
    try with_reducible rfl
  simp only [Act.put, List.setIfInBounds_toArray, List.set_cons_zero, List.set_cons_succ]
  refine hs_take (i := 3) (d := some 6) (v := ?_) rfl (by kernel_rfl) (by kernel_rfl) (by kernel_rfl) (by rfl) ?_ hS rfl ?_
  rotate_left
  · intro w' hw
    have hc : w'.cell? ⟨X, 0, none⟩ = some (.slice a zs.length cap) := hw
    go_simp
    try with_reducible rfl
  simp only [Act.put, List.setIfInBounds_toArray, List.set_cons_zero, List.set_cons_succ]
  refine hs_call (i := 4) (d := some 7) rfl (by kernel_rfl) (by rfl) (by go_simp; first | done | exact ⟨rfl, rfl⟩ | with_reducible rfl) rfl ?_
  refine (c1 w8 B8).mono ?_
  rintro e' w9 ⟨rfl, v', w1, k1, k2, k3, rfl⟩
  have HU := hide (HT.out w8 B8 v' w1 k1 k2 k3)
  refine ⟨_, rfl, ?_, ?_⟩
  · obtain ⟨t', -, -, e3, -⟩ := HU.out
    exact cell_at hX (e3.2 X hXl hXo)
  simp only [Act.put, List.setIfInBounds_toArray, List.set_cons_zero, List.set_cons_succ]
  refine hs_done (by kernel_rfl) ?_
  clear HT k1 k2 k3 c1 hS
  go_wp2_with fail
  go_end0
  exact ⟨rfl, HU.out⟩
end Go.Proofs.YtfkchnjbbbhmjaaGreat
