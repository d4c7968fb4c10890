/- the document's Same: two lists of records; the frames that fit, of whatever kind; a loop over an iterator that keeps memory of its own, and whose elements lie in memory: the elements' own fact goes with them; A region that draws its order: what only reads is taken as soon as it may come up, over worlds that have grown since the last call; behind each call the condition turns to the new world. One way through the region.; The document's reader: Raw.; Two readers of the same bytes, side by side.; the journal's fitting -/
import Derived.Test.YtfkchnjbbbhmjaaGreatXP6
import Derived.Test.YtfkchnjbbbhmjaaGreatXP1
import Derived.RangeFuncNested
import Derived.RangeFuncCalls
import Derived.OrdersIn
import Derived.WalkKit
import Derived.Deep.RegionHeld3
import Derived.Test.YtfkchnjbbbhmjaaGreatXP2
namespace Go.Proofs.YtfkchnjbbbhmjaaGreat.Ty
open Go.RowKit
open Tal
/-- records in memory -/
structure Recs (w : World) (a : Option Addr) (rs : List Rc) : Prop where
  le : rs.length ≤ 100000000
  at0 : rs = [] ∨ ∃ b off, a = some ⟨b, off, none⟩ ∧ b < w.heap.size ∧ w.rangeAt b off (rs.map Rc.val)
  rows : ∀ x ∈ rs, RowAt w x.a x.zs
theorem Recs.get {w : World} {a : Option Addr} {rs : List Rc} (h : Recs w a rs) (k : Nat) (hk : k < rs.length) : ∃ b off, a = some ⟨b, off, none⟩ ∧ b < w.heap.size ∧ w.cell? ⟨b, off + k, none⟩ = some (.slice rs[k].a rs[k].zs.length rs[k].cap) ∧ RowAt w rs[k].a rs[k].zs := by
  rcases h.at0 with q | ⟨b, off, rfl, hb, hr⟩
  · rw [q] at hk; simp at hk
  · refine ⟨b, off, rfl, hb, hr k _ ?_, h.rows _ (List.getElem_mem hk)⟩
    rw [List.getElem?_map, List.getElem?_eq_getElem hk]
    rfl
theorem Out.recs {B : Nat} {w : World} {vk vr : Value} {ks : List Int} {rs : List Rc} (h : Out B w vk vr ks rs rs) (hl : rs.length ≤ 100000000) : ∃ a cap, vr = .slice a rs.length cap ∧ Recs w a rs := by
  rcases own_range h.r with ⟨q, h0, _⟩ | ⟨g, cap, q, hb, hg, hn, hcm, hr⟩
  · exact ⟨none, 0, by rw [q, h0], hl, .inl (List.eq_nil_of_length_eq_zero h0), h.rows⟩
  · exact ⟨_, cap, q, hl, .inr ⟨g, 0, rfl, hg, hr⟩, h.rows⟩
set_option maxRecDepth 100000 in
set_option maxHeartbeats 4000000 in
theorem xsame_any (a1 a2 : Option Addr) (c1 c2 : Nat) (rs ss : List Rc) (w : World) (h1 : Recs w a1 rs) (h2 : Recs w a2 ss) (hE : rs.map Rc.zs = ss.map Rc.zs) :
    Calls Tryz.prog 25 #[.slice a1 rs.length c1, .slice a2 ss.length c2] w fun e w' => e = .returned (.bool true) ∧ Below w.heap.size w w' := by
  have hlen : ss.length = rs.length := by simpa using (congrArg List.length hE).symm
  have hle := h1.le
  rw [hlen]
  go_enter Tryz.func25, Tryz.ntmps25
  go_wp2_with fail
  go_loopw [5] (fun iv wr => ∃ k : Nat, k ≤ rs.length ∧ iv = .int .i64 (k : Int) ∧ Below w.heap.size w wr) (fun iv _ => rs.length - (intOf iv).toNat)
  case atStart => exact ⟨0, by omega, rfl, Below.refl _ _⟩
  case round =>
    obtain ⟨k, hk, rfl, hB⟩ := hrel
    by_cases hlt : k < rs.length
    · obtain ⟨b1, o1, rfl, hb1, hc1, hr1⟩ := h1.get k hlt
      obtain ⟨b2, o2, rfl, hb2, hc2, hr2⟩ := h2.get k (by omega)
      have hz : rs[k].zs = (ss[k]'(by omega)).zs := by
        have q := congrArg (·[k]?) hE
        simp only [List.getElem?_map] at q
        rw [List.getElem?_eq_getElem hlt, List.getElem?_eq_getElem (by omega)] at q
        simpa using q
      generalize rs[k] = x at *
      generalize (ss[k]'(by omega)) = y at *
      obtain ⟨xa, xc, xz⟩ := x
      obtain ⟨ya, yc, yz⟩ := y
      simp only at hz hc1 hc2 hr1 hr2
      subst hz
      clear h1 h2 hE hlen
      have hltI : (k : Int) < (rs.length : Int) := by omega
      go_wp2_with fail
      obtain ⟨w8, hw8⟩ : ∃ w8, wr.drew = w8 := ⟨_, rfl⟩
      have hB8 : Below w.heap.size w w8 := by rw [← hw8]; exact hB.drew
      have cA : ∀ w', Below w8.heap.size w8 w' → w'.cell? ⟨b1, o1 + k, none⟩ = some (.slice xa xz.length xc) := fun w' hw => (cell_block ((hB8.trans (hw.mono hB8.size)).block b1 hb1)).1.trans hc1
      have cB : ∀ w', Below w8.heap.size w8 w' → w'.cell? ⟨b2, o2 + k, none⟩ = some (.slice ya xz.length yc) := fun w' hw => (cell_block ((hB8.trans (hw.mono hB8.size)).block b2 hb2)).1.trans hc2
      have kA : ∀ w', Below w8.heap.size w8 w' → (convert 35 9 (.slice xa xz.length xc)).run Tryz.prog w' = .ok (.string (strOf xz)) w' := fun w' hw => _root_.Go.Proofs.YtfkchnjbbbhmjaaGreat.row_str (cap := xc) (hr1.below (hB8.trans (hw.mono hB8.size)))
      have kB : ∀ w', Below w8.heap.size w8 w' → (convert 35 9 (.slice ya xz.length yc)).run Tryz.prog w' = .ok (.string (strOf xz)) w' := fun w' hw => _root_.Go.Proofs.YtfkchnjbbbhmjaaGreat.row_str (cap := yc) (hr2.below (hB8.trans (hw.mono hB8.size)))
      refine hs_begin (S := (Below w8.heap.size w8)) 11 rfl (by kernel_rfl) ?_
      rw [hw8]
      clear hw8 hc1 hc2 hr1 hr2
      have hS : (Below w8.heap.size w8) w8 := Below.refl _ _
      refine hs_take (i := 0) (d := some 17) (v := ?_) rfl (by kernel_rfl) (by kernel_rfl) (by kernel_rfl) (by rfl) ?_ hS rfl ?_
      rotate_left
      · intro w' hw
        go_simp
        try with_reducible rfl
      simp only [Act.put, List.setIfInBounds_toArray, List.set_cons_zero, List.set_cons_succ]
      refine hs_take (i := 1) (d := some 18) (v := ?_) rfl (by kernel_rfl) (by kernel_rfl) (by kernel_rfl) (by rfl) ?_ hS rfl ?_
      rotate_left
      · intro w' hw
        go_simp
        try with_reducible rfl
      simp only [Act.put, List.setIfInBounds_toArray, List.set_cons_zero, List.set_cons_succ]
      refine hs_take (i := 2) (d := some 19) (v := ?_) rfl (by kernel_rfl) (by kernel_rfl) (by kernel_rfl) (by rfl) ?_ hS rfl ?_
      rotate_left
      · intro w' hw
        go_simp
        try with_reducible rfl
      simp only [Act.put, List.setIfInBounds_toArray, List.set_cons_zero, List.set_cons_succ]
      refine hs_take (i := 3) (d := some 20) (v := ?_) rfl (by kernel_rfl) (by kernel_rfl) (by kernel_rfl) (by rfl) ?_ hS rfl ?_
      rotate_left
      · intro w' hw
        have := cA w' hw
        go_simp
        try with_reducible rfl
      simp only [Act.put, List.setIfInBounds_toArray, List.set_cons_zero, List.set_cons_succ]
      refine hs_take (i := 4) (d := some 21) (v := .string (strOf xz)) rfl (by kernel_rfl) (by kernel_rfl) (by kernel_rfl) (by rfl) (fun w' hw => by have := kA w' hw; go_simp) hS rfl ?_
      simp only [Act.put, List.setIfInBounds_toArray, List.set_cons_zero, List.set_cons_succ]
      refine hs_take (i := 5) (d := some 22) (v := ?_) rfl (by kernel_rfl) (by kernel_rfl) (by kernel_rfl) (by rfl) ?_ hS rfl ?_
      rotate_left
      · intro w' hw
        go_simp
        try with_reducible rfl
      simp only [Act.put, List.setIfInBounds_toArray, List.set_cons_zero, List.set_cons_succ]
      refine hs_take (i := 6) (d := some 23) (v := ?_) rfl (by kernel_rfl) (by kernel_rfl) (by kernel_rfl) (by rfl) ?_ hS rfl ?_
      rotate_left
      · intro w' hw
        go_simp
        try with_reducible rfl
      simp only [Act.put, List.setIfInBounds_toArray, List.set_cons_zero, List.set_cons_succ]
      refine hs_take (i := 7) (d := some 24) (v := ?_) rfl (by kernel_rfl) (by kernel_rfl) (by kernel_rfl) (by rfl) ?_ hS rfl ?_
      rotate_left
      · intro w' hw
        go_simp
        try with_reducible rfl
      simp only [Act.put, List.setIfInBounds_toArray, List.set_cons_zero, List.set_cons_succ]
      refine hs_take (i := 8) (d := some 25) (v := ?_) rfl (by kernel_rfl) (by kernel_rfl) (by kernel_rfl) (by rfl) ?_ hS rfl ?_
      rotate_left
      · intro w' hw
        have := cB w' hw
        go_simp
        try with_reducible rfl
      simp only [Act.put, List.setIfInBounds_toArray, List.set_cons_zero, List.set_cons_succ]
      refine hs_take (i := 9) (d := some 26) (v := .string (strOf xz)) rfl (by kernel_rfl) (by kernel_rfl) (by kernel_rfl) (by rfl) (fun w' hw => by have := kB w' hw; go_simp) hS rfl ?_
      simp only [Act.put, List.setIfInBounds_toArray, List.set_cons_zero, List.set_cons_succ]
      refine hs_take (i := 10) (d := some 27) (v := .bool false) rfl (by kernel_rfl) (by kernel_rfl) (by kernel_rfl) (by rfl) (fun w' hw => by go_simp) hS rfl ?_
      simp only [Act.put, List.setIfInBounds_toArray, List.set_cons_zero, List.set_cons_succ]
      refine hs_done (by kernel_rfl) ?_
      clear cA cB kA kB hS
      go_wp2
      go_roundw
      case rel => exact ⟨k + 1, by omega, by go_num, hB8⟩
      case measure => simp [intOf]; omega
    · obtain rfl : k = rs.length := by omega
      go_wp2
      go_ret
      exact ⟨rfl, hB⟩
end Go.Proofs.YtfkchnjbbbhmjaaGreat.Ty
namespace Go.Proofs.YtfkchnjbbbhmjaaGreat.Ty
open Go.RowKit
open Tal
/-- the frame of whatever kind with which bytes begin -/
def fitW (bs : List Int) : Option Fr :=
  if bs.length < 4 then none else
  if (textS (bs.drop 4) 0 4194304).2.2 ≠ 0 then none else
  if crcN ((bs.drop 3).take (bs.length - (textS (bs.drop 4) 0 4194304).2.1.length - 3)) ≠ sumN (bs.take 3) then none else
  some ⟨bs.getD 3 0, (textS (bs.drop 4) 0 4194304).1, bs.length - (textS (bs.drop 4) 0 4194304).2.1.length⟩
/-- a record, or a turn -/
def Fr.good (f : Fr) : Bool := decide (f.k = 68) || (decide (f.k = 71) && decide (turnN f.zs ≠ 0))
theorem firstW_fit {bs : List Int} (hz : ∀ z ∈ bs, 0 ≤ z ∧ z < 256) : firstW bs = match fitW bs with
    | none => none
    | some f => if f.good = true then some f else none := by
  unfold firstW fitW
  by_cases h4 : bs.length < 4
  · rw [if_pos h4, if_pos h4]
  · rw [if_neg h4, if_neg h4]
    obtain ⟨rec, rest, er, hT⟩ : ∃ rec rest er, textS (bs.drop 4) 0 4194304 = (rec, rest, er) := ⟨_, _, _, rfl⟩
    rw [hT]
    simp only
    by_cases he : er = 0
    · subst he
      obtain ⟨hf, -, -⟩ := fits_iff hz (by omega) hT
      rw [if_neg (c := (0 : Int) ≠ 0) (by simp)]
      generalize bs.getD 3 0 = k at *
      by_cases hc : crcN ((bs.drop 3).take (bs.length - rest.length - 3)) = sumN (bs.take 3)
      · rw [if_neg (c := crcN _ ≠ _) (by simpa using hc)]
        simp only
        have hfr := hf.2 hc
        rw [if_neg (c := frameL k (strOf rec) ≠ _) (by simpa using hfr)]
        by_cases k1 : k = 68
        · subst k1
          simp [Fr.good]
        · by_cases k2 : k = 71
          · subst k2
            by_cases ht : turnN rec = 0
            · simp [Fr.good, ht]
            · simp [Fr.good, ht]
          · simp [Fr.good, k1, k2]
      · rw [if_pos (c := crcN _ ≠ _) hc]
        have hfr : frameL k (strOf rec) ≠ bs.take (bs.length - rest.length) := fun q => hc (hf.1 q)
        simp only
        split
        · rfl
        · first | rfl | rw [if_pos hfr]
    · rw [if_pos (c := er ≠ 0 ∨ _) (.inl he), if_pos (c := er ≠ 0) he]
theorem fitW_len {bs : List Int} {f : Fr} (hz : ∀ z ∈ bs, 0 ≤ z ∧ z < 256) (h : fitW bs = some f) : 4 ≤ f.n ∧ f.n ≤ bs.length := by
  unfold fitW at h
  split at h
  · cases h
  · rename_i h4
    split at h
    · cases h
    · rename_i he
      split at h
      · cases h
      · obtain ⟨rec, rest, er, hT⟩ : ∃ rec rest er, textS (bs.drop 4) 0 4194304 = (rec, rest, er) := ⟨_, _, _, rfl⟩
        rw [hT] at h he
        simp only [Option.some.injEq] at h
        have her : er = 0 := by
          by_cases q : er = 0
          · exact q
          · exact absurd q he
        subst her
        have := (fits_iff hz (by omega) hT).2.1
        subst h
        simp only
        omega
theorem fitW_kind {bs : List Int} {f : Fr} (hz : ∀ z ∈ bs, 0 ≤ z ∧ z < 256) (h : fitW bs = some f) : 0 ≤ f.k ∧ f.k < 256 ∧ (∀ z ∈ f.zs, 0 ≤ z ∧ z < 256) ∧ f.zs.length ≤ bs.length := by
  unfold fitW at h
  split at h
  · cases h
  · rename_i h4
    split at h
    · cases h
    · split at h
      · cases h
      · obtain ⟨⟨pc, pn, hp1⟩, -⟩ := textS_part (bs.drop 4) 0 4194304
        simp only [Option.some.injEq] at h
        subst h
        have hk : bs.getD 3 0 ∈ bs := by
          rw [List.getD_eq_getElem?_getD, List.getElem?_eq_getElem (show 3 < bs.length by omega)]
          exact List.getElem_mem _
        refine ⟨(hz _ hk).1, (hz _ hk).2, fun z q => ?_, ?_⟩
        · simp only [hp1] at q
          exact hz z (List.mem_of_mem_drop (List.mem_of_mem_drop (List.mem_of_mem_take q)))
        · simp only [hp1, List.length_take, List.length_drop]
          omega
def fitsN : Nat → List Int → List Fr
  | 0, _ => []
  | t + 1, bs => match fitW bs with
    | none => []
    | some f => f :: fitsN t (bs.drop f.n)
/-- the frames of whatever kind, one behind the other -/
def fitsW (bs : List Int) : List Fr := fitsN bs.length bs
theorem fitsN_more {bs : List Int} (hz : ∀ z ∈ bs, 0 ≤ z ∧ z < 256) : ∀ t, bs.length ≤ t → fitsN t bs = fitsN bs.length bs := by
  intro t
  induction t using Nat.strongRecOn generalizing bs with
  | _ t ih =>
    intro ht
    match t, ht with
    | 0, ht =>
      have : bs.length = 0 := by omega
      rw [this]
    | t + 1, ht =>
      cases hf : fitW bs with
      | none =>
        have : bs.length = 0 ∨ ∃ u, bs.length = u + 1 := by cases bs.length <;> simp
        rcases this with q | ⟨u, q⟩
        · rw [q]; simp only [fitsN, hf]
        · rw [q]; simp only [fitsN, hf]
      | some f =>
        obtain ⟨l1, l2⟩ := fitW_len hz hf
        obtain ⟨u, q⟩ : ∃ u, bs.length = u + 1 := ⟨bs.length - 1, by omega⟩
        have hz' : ∀ z ∈ bs.drop f.n, 0 ≤ z ∧ z < 256 := fun z hh => hz z (List.mem_of_mem_drop hh)
        have hd : (bs.drop f.n).length ≤ u := by rw [List.length_drop]; omega
        rw [q]
        simp only [fitsN, hf]
        rw [ih t (by omega) hz' (by omega), ih u (by omega) hz' hd]
theorem fitsW_step {bs : List Int} (hz : ∀ z ∈ bs, 0 ≤ z ∧ z < 256) : fitsW bs = match fitW bs with
    | none => []
    | some f => f :: fitsW (bs.drop f.n) := by
  cases hf : fitW bs with
  | none =>
    unfold fitsW
    cases bs.length <;> simp only [fitsN, hf]
  | some f =>
    obtain ⟨l1, l2⟩ := fitW_len hz hf
    obtain ⟨u, q⟩ : ∃ u, bs.length = u + 1 := ⟨bs.length - 1, by omega⟩
    have hz' : ∀ z ∈ bs.drop f.n, 0 ≤ z ∧ z < 256 := fun z hh => hz z (List.mem_of_mem_drop hh)
    unfold fitsW
    rw [q]
    simp only [fitsN, hf]
    rw [fitsN_more hz' u (by rw [List.length_drop]; omega)]
theorem fitsW_len {bs : List Int} (hz : ∀ z ∈ bs, 0 ≤ z ∧ z < 256) : (fitsW bs).length ≤ bs.length := by
  generalize hn : bs.length = n
  induction n using Nat.strongRecOn generalizing bs with
  | _ n ih =>
    rw [fitsW_step hz]
    cases hf : fitW bs with
    | none => simp
    | some f =>
      obtain ⟨l1, l2⟩ := fitW_len hz hf
      have := ih (bs.length - f.n) (by omega) (bs := bs.drop f.n) (fun z hh => hz z (List.mem_of_mem_drop hh)) (by rw [List.length_drop])
      simp only [List.length_cons]
      omega
/-- an area's frames are those that fit, up to the first that is neither a record nor a turn -/
theorem framesW_fits {bs : List Int} (hz : ∀ z ∈ bs, 0 ≤ z ∧ z < 256) : framesW bs = (fitsW bs).takeWhile Fr.good := by
  generalize hn : bs.length = n
  induction n using Nat.strongRecOn generalizing bs with
  | _ n ih =>
    rw [fitsW_step hz, framesW_step hz, firstW_fit hz]
    cases hf : fitW bs with
    | none => simp
    | some f =>
      obtain ⟨l1, l2⟩ := fitW_len hz hf
      cases hg : f.good with
      | false => simp [hg]
      | true =>
        have hi := ih (bs.length - f.n) (by omega) (bs := bs.drop f.n) (fun z hh => hz z (List.mem_of_mem_drop hh)) (by rw [List.length_drop])
        simp [hg, hi]
end Go.Proofs.YtfkchnjbbbhmjaaGreat.Ty
namespace Go.Proofs.YtfkchnjbbbhmjaaGreat
open Go Go.RowKit
/-- what is the body's stays the body's; of the other cells none turns -/
structure KpO (own : World → Nat → Prop) (A B : World) : Prop where
  size : A.heap.size ≤ B.heap.size
  same : ∀ (b : Nat) (o : Obj), A.heap[b]? = some o → o.isCells = true → ¬ own A b → B.heap[b]? = some o
  new : ∀ b, own B b → own A b ∨ A.heap.size ≤ b
theorem KpO.trans {own : World → Nat → Prop} {A B C : World} (h : KpO own A B) (k : KpO own B C) : KpO own A C := by
  refine ⟨Nat.le_trans h.size k.size, fun b o hb ho hn => k.same b o (h.same b o hb ho hn) ho (fun q => ?_), fun b q => ?_⟩
  · rcases h.new b q with q | q
    · exact hn q
    · have := (Array.getElem?_eq_some_iff.1 hb).1; omega
  · rcases k.new b q with q | q
    · exact h.new b q
    · exact .inr (Nat.le_trans h.size q)
variable {F : Fence} {n : Nat} {P : Program}
/-- what an iterator promises -/
def SeqOwn {α : Type} (F : Fence) (n : Nat) (P : Program) (gf : Nat) (lb : Array Value) (encs : α → Array Value) (X : α → World → Prop) (blk : α → Nat → Prop) (own : World → Nat → Prop) (S Sp : List α → Prop) (N : Nat) (w0 : World) : Prop :=
  ∀ (l : Nat) (J Jx : List α → World → Prop) (W : World), Below w0.heap.size w0 W →
    (∀ pre A B row, J pre A → A.grownBy B row → (∀ r, row = some r → W.heap.size ≤ r ∧ ¬ own A r ∧ ∀ x ∈ pre, ¬ blk x r) → J pre B ∧ ∀ b, own B b → own A b) →
    (∀ pre A, J pre A → ∀ b, own A b → b < W.heap.size → ∀ o k z, A.cell? ⟨b, o, none⟩ ≠ some (.int k z)) →
    (∀ pre x A, J pre A → X x A → W.heap.size ≤ A.heap.size → pre.length < N → YieldAt F (n - 1) P l (encs x) A fun e A' =>
      (e = .returned (.bool true) ∧ J (pre ++ [x]) A' ∧ KpO own A A') ∨ (e = .returned (.bool false) ∧ Jx (pre ++ [x]) A')) →
    (∀ pre A, J pre A → ∀ b, own A b → b < A.heap.size) → J [] W →
    CallsIn F n P gf (#[.func (.yield l) #[] #[]] ++ lb) W fun e W' => (∃ v, e = .returned v) ∧ ((∃ xs, S xs ∧ J xs W') ∨ (∃ pre, Sp pre ∧ Jx pre W'))
/-- how a round may be left -/
def ownEnd {α : Type} (B : Nat) (own : World → Nat → Prop) (I : List α → World → Prop) (Ix : Code → List α → World → Prop) (xs : List α) (W : World) : Exit → Act → World → Prop
  | .normal, _, W' => KeepsFrom B W W' ∧ KpO own W W' ∧ I xs W'
  | .exit id, _, W' => KeepsFrom B W W' ∧ Ix (.exit id) xs W'
  | .ret, _, _ => False
  | .goto _, _, _ => False
  | .panic _, _, _ => False
  | .outgrown, _, _ => False
theorem range_own {α : Type} {g : Operand} {ps : Array Tmp} {assign body : Code} {Q : Exit → Act → World → Prop} {a : Act} {w : World}
    (hro : F.round = none) (h1 : 1 ≤ n) {gf : Nat} {lb : Array Value} (hg : a.eval g = .func (.func gf) #[] lb) (hFg : F.fn gf) (eg : ∀ args w, (callFunc gf args).run P w = .ok (.enter gf args) w)
    {encs : α → Array Value} {X : α → World → Prop} {blk : α → Nat → Prop} {own : World → Nat → Prop} {S Sp : List α → Prop} {N : Nat} (hseq : SeqOwn F (n - 1) P gf lb encs X blk own S Sp N w) (hps : ∀ x, (encs x).size = ps.size)
    (I : List α → World → Prop) (Ix : Code → List α → World → Prop)
    (hI : ∀ pre A B row, I pre A → A.grownBy B row → (∀ r, row = some r → w.heap.size ≤ r ∧ ¬ own A r ∧ ∀ x ∈ pre, ¬ blk x r) → I pre B ∧ ∀ b, own B b → own A b)
    (hIx : ∀ c pre A l o o', Ix c pre A → w.heap.size ≤ l → A.heap[l]? = some o → o.isCells = false → Ix c pre (A.putObj l o'))
    (hOC : ∀ pre A, I pre A → ∀ b, own A b → ∃ o : Obj, A.heap[b]? = some o ∧ o.isCells = true)
    (hBC : ∀ pre A, I pre A → ∀ x ∈ pre, ∀ b, blk x b → ∃ o : Obj, A.heap[b]? = some o ∧ o.isCells = true)
    (hOZ : ∀ pre A, I pre A → ∀ b, own A b → b < w.heap.size → ∀ o k z, A.cell? ⟨b, o, none⟩ ≠ some (.int k z))
    (hX : ∀ x A l o o', w.heap.size ≤ l → X x A → A.heap[l]? = some o → o.isCells = false → X x (A.putObj l o'))
    (h0 : I [] w) (a₁ : α → Act)
    (hassign : ∀ (l : Nat) (x : α) (W : World) (K : Act → World → Prop), K (a₁ x) W →
      assign.wpIn (F.inRound l) (n - 1 - 1) P (Exit.then K (fun _ _ _ => False)) { tmps := (ps.zip (encs x)).foldl (fun t (p, v) => t.setIfInBounds p v) a.tmps, defers := [] } W)
    (hbody : ∀ (l : Nat) (pre : List α) (x : α) (W : World), I pre W → X x W → w.heap.size ≤ W.heap.size → pre.length < N → body.wpIn (F.inRound l) (n - 1 - 1) P (ownEnd w.heap.size own I Ix (pre ++ [x]) W) (a₁ x) W)
    (hdone : ∀ (D : Nat) (xs : List α) (W : World), w.heap.size ≤ D → S xs → I xs W → W.heap[D]? = some (.deferred (some [])) → Q .normal { a with defers := { target := .collected D, args := #[] } :: a.defers } W)
    (hstop : ∀ (D : Nat) (c : Code) (pre : List α) (W : World), w.heap.size ≤ D → Sp pre → Ix c pre W → W.heap[D]? = some (.deferred (some [])) → c.wpIn F n P Q { a with defers := { target := .collected D, args := #[] } :: a.defers } W) :
    (Code.rangeFunc g ps assign body).wpIn F n P Q a w := by
  refine wpIn_rangeFunc ?_
  intro fn hfn
  rw [hro]
  obtain ⟨rec, hrec⟩ : ∃ rec : LoopState → Option Code → Loop, rec = fun st pe => { state := st, pending := pe, fn, tmps := a.tmps, params := ps, assign, body, defers := w.heap.size } := ⟨_, rfl⟩
  have hal : ∀ {pre : List α} {A : World} (o : Obj), I pre A → I pre (A.alloc o) ∧ ∀ b, own (A.alloc o) b → own A b := fun o h => hI _ _ _ none h (World.grownBy_alloc _ o none) (fun r e => by cases e)
  have hput : ∀ {pre : List α} {A : World} {l : Nat} {o : Obj} (o' : Obj), I pre A → w.heap.size ≤ l → A.heap[l]? = some o → o.isCells = false → I pre (A.putObj l o') ∧ ∀ b, own (A.putObj l o') b → own A b :=
    fun {pre A l o} o' h hl ho hc => hI _ _ _ (some l) h (grownBy_putObj' _ _ _) (fun r e => by
      cases e
      refine ⟨hl, fun q => ?_, fun x hx q => ?_⟩
      · obtain ⟨o2, h2, h3⟩ := hOC _ _ h _ q
        rw [ho] at h2
        cases h2
        rw [hc] at h3
        cases h3
      · obtain ⟨o2, h2, h3⟩ := hBC _ _ h x hx _ q
        rw [ho] at h2
        cases h2
        rw [hc] at h3
        cases h3)
  have hkp : ∀ {pre : List α} {A : World} {l : Nat} {o : Obj} (o' : Obj), I pre A → w.heap.size ≤ l → A.heap[l]? = some o → o.isCells = false → KpO own A (A.putObj l o') :=
    fun {pre A l o} o' h hl ho hc => by
      refine ⟨(grownBy_putObj' A l o').size, fun b o2 hb hcb _ => ?_, fun b q => .inl ((hput o' h hl ho hc).2 b q)⟩
      have hne : b ≠ l := fun e => by
        subst e
        rw [hb] at ho
        cases ho
        rw [hcb] at hc
        cases hc
      exact (World.putObj_heap_other hne).trans hb
  obtain ⟨W1, hW1⟩ : ∃ W1, (w.alloc (.deferred (some []))).alloc (.loop (rec .ready none)) = W1 := ⟨_, rfl⟩
  have hs1 : W1.heap.size = w.heap.size + 2 := by rw [← hW1]; simp
  have hL1 : W1.heap[w.heap.size + 1]? = some (.loop (rec .ready none)) := by
    rw [← hW1]; have := World.alloc_heap_new (w.alloc (.deferred (some []))) (.loop (rec .ready none)); rwa [World.size_alloc] at this
  have hK1 : W1.heap[w.heap.size]? = some (.deferred (some [])) := by
    rw [← hW1]; exact (Below.heap_alloc _ _ _ (by simp)).trans (World.alloc_heap_new w _)
  have hI1 : I [] W1 ∧ ∀ b, own W1 b → own w b := by
    rw [← hW1]
    have q1 := hal (.deferred (some [])) h0
    have q2 := hal (.loop (rec .ready none)) q1.1
    exact ⟨q2.1, fun b q => q1.2 b (q2.2 b q)⟩
  have hb1 : Below w.heap.size w W1 := by
    rw [← hW1]; exact ((Below.refl _ w).alloc (Nat.le_refl _) _).alloc (by simp) _
  refine ⟨w.heap.size + 1, [{ target := .collected w.heap.size, args := #[] }], W1, { target := .fn (.func gf) lb, args := #[.func (.yield (w.heap.size + 1)) #[] #[]] }, W1, gf,
    #[.func (.yield (w.heap.size + 1)) #[] #[]] ++ lb, W1, ?_, ?_, ?_, ?_, fun _ => h1, ?_⟩
  · rw [← hW1, hrec]; exact run_enterLoop_outer _ _ _ _ _
  · simp only [resolve, hg]
    simp [go_sem]
  · intro f' hf'; simp [Target.leads] at hf'; subst hf'; exact hFg
  · simp [invoke, go_sem, eg]
  · have stay : ∀ {A B : World} {row : Option Nat} {k : Nat} {o : Obj}, A.grownBy B row → (∀ r, row = some r → W1.heap.size ≤ r) → k < W1.heap.size → A.heap[k]? = some o → B.heap[k]? = some o := fun hg hr hk ho =>
      (hg.block _ (Array.getElem?_eq_some_iff.1 ho).1 (fun e => by have := hr _ e.symm; omega)).trans ho
    refine (hseq (w.heap.size + 1)
      (fun pre W => I pre W ∧ W.heap[w.heap.size + 1]? = some (.loop (rec .ready none)) ∧ W.heap[w.heap.size]? = some (.deferred (some [])))
      (fun pre W => ∃ c, Ix c pre W ∧ W.heap[w.heap.size + 1]? = some (.loop (rec .done (some c))) ∧ W.heap[w.heap.size]? = some (.deferred (some [])))
      W1 hb1 ?_ ?_ ?_ ?_ ⟨hI1.1, hL1, hK1⟩).mono ?_
    · rintro pre A B row ⟨hi, hl, hk⟩ hg hr
      obtain ⟨q1, q2⟩ := hI pre A B row hi hg (fun r e => ⟨by have := (hr r e).1; omega, (hr r e).2⟩)
      exact ⟨⟨q1, stay hg (fun r e => (hr r e).1) (by omega) hl, stay hg (fun r e => (hr r e).1) (by omega) hk⟩, q2⟩
    · rintro pre A ⟨hi, hl, hk⟩ b hb hlt
      refine hOZ pre A hi b hb ?_
      by_cases e1 : b = w.heap.size
      · subst e1
        obtain ⟨o2, h2, h3⟩ := hOC _ _ hi _ hb
        rw [hk] at h2; cases h2; cases h3
      · by_cases e2 : b = w.heap.size + 1
        · subst e2
          obtain ⟨o2, h2, h3⟩ := hOC _ _ hi _ hb
          rw [hl] at h2; cases h2; cases h3
        · omega
    · rintro pre x W ⟨hi, hl, hk⟩ hx hws hlen
      have hlt : w.heap.size + 1 < W.heap.size := (Array.getElem?_eq_some_iff.1 hl).1
      have hy := run_yield (P := P) (args := encs x) hl (by rw [hrec]; exact hps x)
      rw [hrec] at hy
      refine ⟨fn, _, assign, body, hy, roundIn_of_wpIn hfn (hassign _ x W _ ⟨_, run_beginRound hl (by rw [hrec]), ?_⟩)⟩
      obtain ⟨A2, hA2⟩ : ∃ A2, W.putObj (w.heap.size + 1) (.loop { rec .ready none with state := .busy }) = A2 := ⟨_, rfl⟩
      have hl2 : A2.heap[w.heap.size + 1]? = some (.loop { rec .ready none with state := .busy }) := by rw [← hA2]; exact World.putObj_heap_same hlt
      have hk2 : A2.heap[w.heap.size]? = some (.deferred (some [])) := by rw [← hA2]; exact (World.putObj_heap_other (by omega)).trans hk
      have hi2 : I pre A2 := by rw [← hA2]; exact (hput _ hi (by omega) hl rfl).1
      have hx2 : X x A2 := by rw [← hA2]; exact hX _ _ _ _ _ (by omega) hx hl rfl
      have hp2 : KpO own W A2 := by rw [← hA2]; exact hkp _ hi (by omega) hl rfl
      have hs2 : w.heap.size ≤ A2.heap.size := by have := hp2.size; omega
      have hA2' : W.putObj (w.heap.size + 1) (.loop { state := .busy, pending := none, fn := fn, tmps := a.tmps, params := ps, assign := assign, body := body, defers := w.heap.size }) = A2 := by rw [← hA2, hrec]
      rw [hrec]
      simp only
      rw [hA2']
      refine wpIn_mono (hbody _ pre x _ hi2 hx2 hs2 hlen) ?_
      have fin : ∀ (jump : Option Code) (W3 : World), KeepsFrom w.heap.size A2 W3 →
          (Instr.endRound (w.heap.size + 1) jump).run P W3 = .ok (.bool jump.isNone) (W3.putObj (w.heap.size + 1) (.loop (rec (if jump.isNone then .ready else .done) jump))) ∧
          W3.heap[w.heap.size + 1]? = some (.loop { rec .ready none with state := .busy }) ∧
          (W3.putObj (w.heap.size + 1) (.loop (rec (if jump.isNone then .ready else .done) jump))).heap[w.heap.size + 1]? = some (.loop (rec (if jump.isNone then .ready else .done) jump)) ∧
          (W3.putObj (w.heap.size + 1) (.loop (rec (if jump.isNone then .ready else .done) jump))).heap[w.heap.size]? = some (.deferred (some [])) := fun jump W3 hk3 => by
        have hl3 := hk3.same _ _ (by omega) hl2 rfl
        have := run_endRound (P := P) jump hl3
        rw [hrec] at this ⊢
        exact ⟨this, by rw [hrec] at hl3; exact hl3, World.putObj_heap_same (Array.getElem?_eq_some_iff.1 hl3).1, (World.putObj_heap_other (by omega)).trans (hk3.same _ _ (Nat.le_refl _) hk2 rfl)⟩
      rintro e a3 W3 hp
      cases e with
      | normal =>
        obtain ⟨hk3, hkp3, hi3⟩ := hp
        obtain ⟨hr, hl3, hl4, hk4⟩ := fin none W3 hk3
        exact ⟨_, _, hr, .inl ⟨rfl, ⟨(hput _ hi3 (by omega) hl3 rfl).1, by have q := hl4; rw [hrec] at q ⊢; exact q, hk4⟩, (hp2.trans hkp3).trans (hkp _ hi3 (by omega) hl3 rfl)⟩⟩
      | exit id =>
        obtain ⟨hk3, hi3⟩ := hp
        obtain ⟨hr, hl3, hl4, hk4⟩ := fin (some (.exit id)) W3 hk3
        exact ⟨_, _, hr, .inr ⟨rfl, .exit id, hIx _ _ _ _ _ _ hi3 (by omega) hl3 rfl, by have q := hl4; rw [hrec] at q ⊢; exact q, hk4⟩⟩
      | ret => exact hp.elim
      | goto t => exact hp.elim
      | panic ch => exact hp.elim
      | outgrown => exact hp.elim
    · rintro pre A ⟨hi, -, -⟩ b q
      obtain ⟨o2, h2, -⟩ := hOC _ _ hi _ q
      exact (Array.getElem?_eq_some_iff.1 h2).1
    · rintro e W2 ⟨⟨v, rfl⟩, (⟨xs, hS, hi, hl, hk⟩ | ⟨pre, hSp, c, hi, hl, hk⟩)⟩
      · exact ⟨none, _, by have := run_endLoop (P := P) hl (by rw [hrec]; simp); rw [hrec] at this; exact this, hdone _ xs _ (Nat.le_refl _) hS (hput _ hi (by omega) hl rfl).1 ((World.putObj_heap_other (by omega)).trans hk)⟩
      · exact ⟨some c, _, by have := run_endLoop (P := P) hl (by rw [hrec]; simp); rw [hrec] at this; exact this, hstop _ c pre _ (Nat.le_refl _) hSp (hIx _ _ _ _ _ _ hi (by omega) hl rfl) ((World.putObj_heap_other (by omega)).trans hk)⟩
section
variable {ops : Array Oper} {Q : Exit → Act → World → Prop}
def Oper.plain (o : Oper) : Bool := match o.op with | .defer _ => false | _ => true
theorem op_round {o : Oper} {a : Act} {w : World} {K K' : Act → World → Prop} (l n : Nat) (hd : Oper.plain o = true) (hK : ∀ a w, K a w → K' a w) (h : o.wp P a w K Q) : o.wpIn (Fence.wide.inRound l) n P a w K' Q := by
  refine ⟨fun f _ => trivial, ?_⟩
  rw [Oper.semAt_eq _ _ _ (fun c e => by rw [Oper.plain, e] at hd; cases hd)]
  unfold Oper.wp at h
  generalize (execOp a.eval o).run P w = r at h
  match r, h with
  | .ok (.value v) w', h => exact hK _ _ h
  | .ok .skip w', h => exact hK _ _ h
  | .ok (.defer d) w', h => exact hK _ _ h
  | .ok (.enter f args) w', h =>
    refine ⟨fun e => by simp [Fence.wide, Fence.inRound] at e, ?_⟩
    refine CallsIn.inRound l ((callsIn_wide (n := n - 1)).2 (Calls.mono h ?_))
    intro e w'' he
    match e, he with
    | .returned v, he => exact hK _ _ he
    | .panicked c, he => exact he
    | .outgrown, he => exact he
  | .ok (.row row args) w', h =>
    refine ⟨fun e => by simp [Fence.wide, Fence.inRound] at e, ?_⟩
    intro c cs _
    obtain ⟨v, w'', r, s⟩ := h c cs
    exact ⟨v, w'', hK _ _ r, stepsIn_wide.2 s⟩
  | .halt (.panic v) w', h => exact h
theorem list_round (l n : Nat) (hno : ¬ LetsOut Q) : ∀ (rest : List Oper) (a : Act) (w : World), rest.all Oper.plain = true → wpList P ops Q rest a w → wpListIn (Fence.wide.inRound l) n P ops Q rest a w
  | [], _, _, _, h => h
  | o :: rest, a, w, hd, h => by
    rw [List.all_cons, Bool.and_eq_true] at hd
    unfold wpList at h
    unfold wpListIn
    split at h
    · rename_i hw
      rw [if_pos hw]
      rcases h with h | ⟨_, h⟩
      · exact op_round l n hd.1 (fun a w => list_round l n hno rest a w hd.2) h
      · exact (hno h).elim
    · rename_i hw
      rw [if_neg hw]
      exact ⟨fun _ _ => trivial, list_round l n hno rest _ _ hd.2 h⟩
/-- a plain region in a round is walked as outside -/
theorem region_round {id l n : Nat} {a : Act} {w : World} (hd : ops.toList.all Oper.plain = true) (hno : ¬ LetsOut Q) (h : (wpList P ops Q ops.toList a w)) : (Code.region id ops false).wpIn (Fence.wide.inRound l) n P Q a w :=
  wpIn_region_list (list_round l n hno _ _ _ hd h)
end
end Go.Proofs.YtfkchnjbbbhmjaaGreat
namespace Go.Proofs.YtfkchnjbbbhmjaaGreat.Ty
open Go Go.RowKit
section
variable {P : Program} {ops : Array Oper} {Q : Exit → Act → World → Prop} {md : Region.Mode}

theorem wpAnyH_weaken {S S' : World → Prop} (h : ∀ w, S' w → S w) : ∀ (fuel : Nat) (listed : Array Bool) (a : Act) (w : World), wpAnyH P md ops Q S' fuel listed a w → wpAnyH P md ops Q S fuel listed a w
  | 0, _, _, _, k => k
  | fuel + 1, _, _, _, k => ⟨k.1, fun i hi => wpOp_mono (fun a' w' k' => ⟨h w' k'.1, wpAnyH_weaken h fuel _ a' w' k'.2⟩) (k.2 i hi)⟩

/-- whatever comes up from here on; w0: the world behind the last call -/
def Held (P : Program) (ops : Array Oper) (Q : Exit → Act → World → Prop) (w0 : World) (fuel : Nat) (listed : Array Bool) (a : Act) (w : World) : Prop :=
  wpAnyH P .any ops (NoPanic Q) (fun w' => Below w0.heap.size w0 w') fuel listed a w

theorem held_begin {id : Nat} {a : Act} {w : World} (n : Nat) (hn : ops.size = n) (hm : P.follows .mixedOrders = true) (h : Held P ops Q w.drew n (Array.replicate n false) a w.drew) : (Code.region id ops true).wp P Q a w := by
  subst hn
  exact wp_region_noPanic (wp_region_held hm h)
theorem held_take {i : Nat} {oi : Oper} {d : Option Nat} {v : Value} {fuel : Nat} {listed : Array Bool} {a : Act} {w w0 : World} (hi : ops[i]? = some oi)
    (hs : Region.noSelect ops = true) (hf : Region.free .any ops listed i = true) (hr : (Region.ready .any ops listed).contains i = true)
    (hw : Region.wanted oi (yielded ops a.tmps) = true) (hy : ∀ w', Below w0.heap.size w0 w' → (execOp a.eval oi).run P w' = .ok (.value v) w') (hS : Below w0.heap.size w0 w) (hdst : oi.dst = d)
    (h : Held P ops Q w0 fuel (listed.setIfInBounds i true) (a.put d v) w) : Held P ops Q w0 (fuel + 1) listed a w := by
  subst hdst
  exact wpAnyH_take hi hs hf hr (fun _ _ _ h => h) (Or.inl ⟨hw, hy⟩) hS h
theorem held_skip {i : Nat} {oi : Oper} {d : Option Nat} {fuel : Nat} {listed : Array Bool} {a : Act} {w w0 : World} (hi : ops[i]? = some oi)
    (hs : Region.noSelect ops = true) (hf : Region.free .any ops listed i = true) (hr : (Region.ready .any ops listed).contains i = true)
    (hw : Region.wanted oi (yielded ops a.tmps) = false) (hS : Below w0.heap.size w0 w) (hdst : oi.dst = d)
    (h : Held P ops Q w0 fuel (listed.setIfInBounds i true) (a.put d undef) w) : Held P ops Q w0 (fuel + 1) listed a w := by
  subst hdst
  exact wpAnyH_take hi hs hf hr (fun _ _ _ h => h) (Or.inr ⟨hw, rfl⟩) hS h
theorem held_call {i : Nat} {oi : Oper} {d : Option Nat} {f : FuncId} {args : Array Value} {fuel : Nat} {listed : Array Bool} {a : Act} {w w0 : World} (hi : ops[i]? = some oi)
    (hr : Region.ready .any ops listed = [i]) (hw : Region.wanted oi (yielded ops a.tmps) = true) (hy : (execOp a.eval oi).run P w = .ok (.enter f args) w) (hS : Below w0.heap.size w0 w) (hdst : oi.dst = d)
    (h : Calls P f args w fun e w' => ∃ v, e = .returned v ∧ Below w.heap.size w w' ∧ Held P ops Q w' fuel (listed.setIfInBounds i true) (a.put d v) w') : Held P ops Q w0 (fuel + 1) listed a w := by
  subst hdst
  refine wpAnyH_all hr (by simp) ?_
  intro j hj
  obtain rfl : j = i := by simpa using hj
  unfold wpOp
  simp only [hi, hw, if_true]
  left
  unfold Oper.wp
  rw [hy]
  refine h.mono ?_
  rintro e w' ⟨v, rfl, hb, hk⟩
  have hb' := hS.trans (hb.mono hS.size)
  exact ⟨hb', wpAnyH_weaken (fun w'' h'' => hb'.trans (h''.mono hb'.size)) _ _ _ _ hk⟩
/-- an operation that comes up alone and makes memory of its own (a builtin, a new variable): the condition stays -/
theorem held_run {i : Nat} {oi : Oper} {d : Option Nat} {v : Value} {fuel : Nat} {listed : Array Bool} {a : Act} {w w' w0 : World} (hi : ops[i]? = some oi)
    (hr : Region.ready .any ops listed = [i]) (hw : Region.wanted oi (yielded ops a.tmps) = true) (hy : (execOp a.eval oi).run P w = .ok (.value v) w') (hdst : oi.dst = d)
    (hS : Below w0.heap.size w0 w') (h : Held P ops Q w0 fuel (listed.setIfInBounds i true) (a.put d v) w') : Held P ops Q w0 (fuel + 1) listed a w := by
  subst hdst
  refine wpAnyH_all hr (by simp) ?_
  intro j hj
  obtain rfl : j = i := by simpa using hj
  unfold wpOp
  simp only [hi, hw, if_true]
  left
  unfold Oper.wp
  rw [hy]
  exact ⟨hS, h⟩
theorem exec_append {o : Oper} {a : Act} {w w' : World} {s x : Operand} {t tx : TypeId} {v xv v' : Value} (ho : o.op = .call { callee := .builtin .append, args := #[s, x], argTypes := #[t, tx] }) (hs : a.eval s = v) (hx : a.eval x = xv)
    (hr : (Builtin.append_ #[t, tx] o.type #[v, xv]).run P w = .ok v' w') : (execOp a.eval o).run P w = .ok (.value v') w' := by
  unfold execOp
  simp only [ho, resolve, invoke, builtin, Sem.run_bind, Sem.run_pure, Result.andThen_ok, List.map_toArray, List.map_cons, List.map_nil, hs, hx, hr]
theorem held_done {fuel : Nat} {listed : Array Bool} {a : Act} {w w0 : World} (hr : Region.ready .any ops listed = []) (h : Q .normal a w) : Held P ops Q w0 fuel listed a w :=
  wpAnyH_done hr (NoPanic.normal h) fuel
end
end Go.Proofs.YtfkchnjbbbhmjaaGreat.Ty
namespace Go.Proofs.YtfkchnjbbbhmjaaGreat.Ty
open Go.RowKit
open Tal
variable {B T : Nat}
end Go.Proofs.YtfkchnjbbbhmjaaGreat.Ty
namespace Go.Proofs.YtfkchnjbbbhmjaaGreat.Ty
open Go.RowKit
open Tal
theorem RdE.gb {w w' : World} {R : Nat} {e : Int} {r : Option Nat} (h : RdE w R e) (hg : w.grownBy w' r) (hr : some R ≠ r) : RdE w' R e :=
  h.below (hg.block R h.1 hr) hg.size
/-- a reader stays where a block beyond it turns -/
theorem St.gb {w w' : World} {R g : Nat} {rest : List Int} {e : Int} (h : St w R rest e) (hg : w.grownBy w' (some g)) (hr : R < g) : St w' R rest e := by
  refine ⟨h.1.gb hg (by intro q; injection q with q; omega), fun he => ?_⟩
  obtain ⟨a, cap, h0, hc, hm, hrow, hlt⟩ := h.2 he
  refine ⟨a, cap, (cell_block (hg.block R h.1.1 (by intro q; injection q with q; omega))).1.trans h0, hc, hm, hrow.gb hg (.inr (fun x hx => by have := hlt x hx; omega)), hlt⟩
/-- the document's reader stays where a block turns that is not its own nor its bytes' -/
theorem RSt.gb {B T : Nat} {w w' : World} {X g : Nat} {rest : List Int} {e : Int} (h : RSt B T w X rest e) (hg : w.grownBy w' (some g)) (hr : g < B ∧ g ≠ X ∨ X < g) : RSt B T w' X rest e := by
  obtain ⟨zs, p, ⟨hX, ⟨a, cap, h0, hc, hm, hrow, hlt⟩, h1, h2, f0, f1, f2, hp, hl⟩, hd⟩ := h
  have hne : some X ≠ some g := by intro q; injection q with q; omega
  have hk := fun j => @cell_block w w' X j (hg.block X hX hne)
  exact ⟨zs, p, ⟨Nat.lt_of_lt_of_le hX hg.size, ⟨a, cap, (hk 0).1.trans h0, hc, hm, hrow.gb hg (.inr (fun x hx => by have := hlt x hx; omega)), hlt⟩, (hk 1).1.trans h1, (hk 2).1.trans h2, (hk 0).2.trans f0, (hk 1).2.trans f1, (hk 2).2.trans f2, hp, hl⟩, hd⟩
/-- all blocks of w but R and X lie in W as they lay -/
structure Kept (w : World) (R X : Nat) (W : World) : Prop where
  os : W.os = w.os
  tape : W.tape = w.tape
  output : W.output = w.output
  size : w.heap.size ≤ W.heap.size
  block : ∀ k, k < w.heap.size → k ≠ R → k ≠ X → W.heap[k]? = w.heap[k]?
theorem Kept.refl (w : World) (R X : Nat) : Kept w R X w := ⟨rfl, rfl, rfl, Nat.le_refl _, fun _ _ _ _ => rfl⟩
theorem Kept.gb {w W W' : World} {R X g : Nat} (h : Kept w R X W) (hg : W.grownBy W' (some g)) (hr : g = R ∨ g = X ∨ w.heap.size ≤ g) : Kept w R X W' :=
  ⟨hg.os.trans h.os, hg.tape.trans h.tape, hg.output.trans h.output, Nat.le_trans h.size hg.size, fun k hk k1 k2 => (hg.block k (Nat.lt_of_lt_of_le hk h.size) (by intro q; injection q with q; omega)).trans (h.block k hk k1 k2)⟩
theorem Kept.below {w W W' : World} {R X : Nat} (h : Kept w R X W) (hb : Below W.heap.size W W') : Kept w R X W' :=
  ⟨hb.os.trans h.os, hb.tape.trans h.tape, hb.output.trans h.output, Nat.le_trans h.size hb.size, fun k hk k1 k2 => (hb.block k (Nat.lt_of_lt_of_le hk h.size)).trans (h.block k hk k1 k2)⟩
theorem Kept.to {w0 w W : World} {R X : Nat} (h : Kept w R X W) (hb : Below w0.heap.size w0 w) (hR : w0.heap.size ≤ R) (hX : w0.heap.size ≤ X) : Below w0.heap.size w0 W :=
  ⟨h.os.trans hb.os, h.tape.trans hb.tape, h.output.trans hb.output, Nat.le_trans hb.size h.size, fun k hk => (h.block k (Nat.lt_of_lt_of_le hk hb.size) (by omega) (by omega)).trans (hb.block k hk)⟩
/-- both readers, at the same bytes with the same error -/
structure Two (B T : Nat) (w : World) (R X : Nat) (W : World) (rest : List Int) (e : Int) : Prop where
  own : St W R rest e
  doc : RSt B T W X rest e
  kept : Kept w R X W
theorem Two.below {B T : Nat} {w W W' : World} {R X : Nat} {rest : List Int} {e : Int} (h : Two B T w R X W rest e) (hb : Below W.heap.size W W') : Two B T w R X W' rest e :=
  ⟨h.own.below hb, h.doc.below hb, h.kept.below hb⟩
theorem Two.gb {B T : Nat} {w W W' : World} {R X g : Nat} {rest : List Int} {e : Int} (h : Two B T w R X W rest e) (hg : W.grownBy W' (some g)) (h1 : R < X) (h2 : X < g) (h3 : w.heap.size ≤ g) : Two B T w R X W' rest e :=
  ⟨h.own.gb hg (by omega), h.doc.gb hg (.inr h2), h.kept.gb hg (.inr (.inr h3))⟩
/-- one step of both -/
theorem Two.step {B T : Nat} {w W W1 W2 : World} {R X : Nat} {rest rest' : List Int} {e e' : Int} (h : Two B T w R X W rest e) (hRX : R < X) (hRB : R < B)
    (s1 : St W1 R rest' e') (g1 : W.grownBy W1 (some R)) (s2 : RSt B T W1 X rest e → RSt B T W2 X rest' e' ∧ W1.grownBy W2 (some X)) : Two B T w R X W2 rest' e' := by
  have hd := h.doc.gb g1 (.inl ⟨hRB, by omega⟩)
  obtain ⟨d2, g2⟩ := s2 hd
  exact ⟨s1.gb g2 hRX, d2, (h.kept.gb g1 (.inl rfl)).gb g2 (.inr (.inl rfl))⟩
theorem numR_nonneg (zs : List Int) (hz : ∀ z ∈ zs, 0 ≤ z ∧ z < 256) : 0 ≤ (numR zs).1 := by
  cases zs with
  | nil => simp [numR]
  | cons k tl =>
    simp only [numR]
    split
    · simp
    · split
      · simp
      · split
        · have hb := val_bound (tl.take k.toNat) (fun z hzz => hz z (List.mem_cons_of_mem _ (List.mem_of_mem_take hzz)))
          simp only [valR]
          split
          · simp
          · exact hb.1
        · simp
theorem St.pos {w : World} {R : Nat} {rest : List Int} {e : Int} (h : St w R rest e) : 0 ≤ (numS rest e 9223372036854775807).1 := by
  unfold numS
  by_cases he : e = 0
  · rw [if_pos he]
    obtain ⟨a, cap, h0, hc, hm, hrow, hlt⟩ := h.2 he
    have := numR_nonneg rest hrow.2.1
    split
    · split
      · simp
      · exact this
    · simp
  · rw [if_neg he]; simp
end Go.Proofs.YtfkchnjbbbhmjaaGreat.Ty
namespace Go.Proofs.YtfkchnjbbbhmjaaGreat.Ty
open Go Go.RowKit
open Tal
theorem ex_slice {o : Oper} {a : Act} {w : World} {x l h : Operand} {b off n cap lo hi : Nat} (ho : o.op = .slice 35 x (some l) (some h) none) (hx : a.eval x = .slice (some ⟨b, off, none⟩) n cap) (hl : a.eval l = .int .i64 (lo : Int)) (hh : a.eval h = .int .i64 (hi : Int))
    (h1 : lo ≤ hi) (h2 : hi ≤ cap) (h3 : lo < cap) (_h4 : cap ≤ maxLen) : (execOp a.eval o).run Tryz.prog w = .ok (.value (.slice (some ⟨b, off + lo, none⟩) (hi - lo) (cap - lo))) w := by
  have he : Tryz.prog.elem 35 = 5 := by simp [Program.elem, Tryz.underlying35]
  have hu : Tryz.prog.underlying 35 = some (.slice (Tryz.prog.elem 35)) := by rw [he]; exact Tryz.underlying35
  have hs := run_slice_lh (P := Tryz.prog) w 35 (some ⟨b, off, none⟩) n cap hu .i64 .i64 (lo : Int) (hi : Int) (by omega) (by omega) (by omega)
  rw [he, run_size isz8] at hs
  simp only [Result.andThen_ok, sliced, Int.toNat_natCast, Nat.mul_one] at hs
  rw [if_neg (by omega)] at hs
  unfold execOp
  simp only [ho, hx, Option.map_some, hl, hh, Option.map_none, Sem.run_bind, run_sliceAt_slice w 35 _ _ _ _ hu, hs, Result.andThen_ok, Sem.run_pure]
  simp [Addr.add]
/-- what the reader tells of a frame, one behind the other -/
theorem chain (cur : List Int) :
    ((textS (rawS (rawS cur 0 3).2.1 (rawS cur 0 3).2.2 1).2.1 (rawS (rawS cur 0 3).2.1 (rawS cur 0 3).2.2 1).2.2 4194304).2.2 ≠ 0 → fitW cur = none) ∧
    ((textS (rawS (rawS cur 0 3).2.1 (rawS cur 0 3).2.2 1).2.1 (rawS (rawS cur 0 3).2.1 (rawS cur 0 3).2.2 1).2.2 4194304).2.2 = 0 → 4 ≤ cur.length ∧ rawS cur 0 3 = (cur.take 3, cur.drop 3, 0) ∧ rawS (cur.drop 3) 0 1 = ((cur.drop 3).take 1, cur.drop 4, 0)) := by
  have herr : ∀ (r : List Int) (e m : Int), e ≠ 0 → (textS r e m).2.2 = e := by
    intro r e m he
    have : numS r e 9223372036854775807 = (0, r, e) := by unfold numS; rw [if_neg he]
    unfold textS
    rw [this]
    simp only
    rw [if_neg he]
  by_cases h3 : cur.length < 3
  · have e1 : rawS cur 0 3 = ([], cur, 10) := by unfold rawS; rw [if_pos rfl, if_neg (by omega), if_pos (by omega)]
    have e2 : rawS cur 10 1 = ([], cur, 10) := by unfold rawS; rw [if_neg (by omega)]
    simp only [e1, e2]
    rw [herr _ _ _ (by omega)]
    refine ⟨fun _ => ?_, fun h => by cases h⟩
    unfold fitW; rw [if_pos (by omega)]
  · have e1 : rawS cur 0 3 = (cur.take 3, cur.drop 3, 0) := by unfold rawS; rw [if_pos rfl, if_neg (by omega), if_neg (by omega)]; rfl
    simp only [e1]
    by_cases h4 : cur.length < 4
    · have e2 : rawS (cur.drop 3) 0 1 = ([], cur.drop 3, 10) := by unfold rawS; rw [if_pos rfl, if_neg (by omega), if_pos (by rw [List.length_drop]; omega)]
      simp only [e2]
      rw [herr _ _ _ (by omega)]
      refine ⟨fun _ => ?_, fun h => by cases h⟩
      unfold fitW; rw [if_pos h4]
    · have e2 : rawS (cur.drop 3) 0 1 = ((cur.drop 3).take 1, cur.drop 4, 0) := by
        unfold rawS; rw [if_pos rfl, if_neg (by omega), if_neg (by rw [List.length_drop]; omega)]
        have : (1 : Int).toNat = 1 := rfl
        rw [this, List.drop_drop]
      simp only [e2]
      refine ⟨fun h => ?_, fun _ => ⟨by omega, trivial, trivial⟩⟩
      unfold fitW; rw [if_neg h4, if_pos h]
theorem rawS_len (r : List Int) (e n : Int) : (rawS r e n).2.1.length ≤ r.length ∧ (rawS r e n).1.length ≤ r.length := by
  unfold rawS
  repeat' split
  all_goals simp
  all_goals omega
/-- an element: kind and record -/
structure Fx where
  k : Int
  r : Rc
def Fx.key (x : Fx) : Int × List Int := (x.k, x.r.zs)
def Fr.key (f : Fr) : Int × List Int := (f.k, f.zs)
def Fx.blk (x : Fx) (b : Nat) : Prop := x.r.zs ≠ [] ∧ ∃ ad, x.r.a = some ad ∧ ad.block = b
def encF (x : Fx) : Array Value := #[.int .u8 x.k, .slice x.r.a x.r.zs.length x.r.cap]
structure XF (n0 : Nat) (own : World → Nat → Prop) (x : Fx) (A : World) : Prop where
  row : RowAt A x.r.a x.r.zs
  k0 : 0 ≤ x.k
  k1 : x.k < 256
  le : x.r.zs.length ≤ 100000000
  lc : x.r.zs.length ≤ x.r.cap
  cm : x.r.cap ≤ maxLen
  off : ∀ ad, x.r.a = some ad → n0 ≤ ad.block ∧ ad.block < A.heap.size ∧ ¬ own A ad.block
theorem _root_.Go.Proofs.YtfkchnjbbbhmjaaGreat.KpO.block {own : World → Nat → Prop} {A B : World} (h : KpO own A B) {b o : Nat} {v : Value} (hc : A.cell? ⟨b, o, none⟩ = some v) (hn : ¬ own A b) : B.heap[b]? = A.heap[b]? := by
  obtain ⟨ob, h1, h2⟩ := cells_of_cell hc
  exact (h.same b ob h1 h2 hn).trans h1.symm
theorem _root_.Go.Proofs.YtfkchnjbbbhmjaaGreat.KpO.row {own : World → Nat → Prop} {A B : World} (h : KpO own A B) {a : Option Addr} {zs : List Int} (hr : RowAt A a zs) (hn : ∀ b o z, a = some ⟨b, o, none⟩ → A.cell? ⟨b, o, none⟩ = some (.int .u8 z) → ¬ own A b) : RowAt B a zs := by
  refine ⟨hr.1, hr.2.1, ?_⟩
  rcases hr.2.2 with q | ⟨b, off, rfl, hb, hrr⟩
  · exact .inl q
  · cases zs with
    | nil => exact .inl rfl
    | cons z zs =>
      have hc : A.cell? ⟨b, off, none⟩ = some (.int .u8 z) := by have := hrr 0 (.int .u8 z) rfl; rwa [Nat.add_zero] at this
      have he := h.block hc (hn b off z rfl hc)
      exact .inr ⟨b, off, rfl, Nat.lt_of_lt_of_le hb h.size, range_at hrr he⟩
set_option maxRecDepth 100000 in
set_option maxHeartbeats 8000000 in
theorem fitting1_any (m n0 Bs : Nat) (a : Option Addr) (cap : Nat) (bs : List Int) (own : World → Nat → Prop) (w : World) (hcb : w.cell? ⟨Bs, 0, none⟩ = some (.slice a bs.length cap)) (hrow : RowAt w a bs) (hc : bs.length ≤ cap) (hcm : cap ≤ maxLen) (hl : bs.length ≤ 100000000)
    (hn0 : n0 ≤ w.heap.size) (hBo : ∀ W, Below w.heap.size w W → ¬ own W Bs) :
    SeqOwn Fence.wide m Tryz.prog 104 #[.pointer (some ⟨Bs, 0, none⟩)] encF (XF n0 own) Fx.blk own (fun xs => xs.map Fx.key = (fitsW bs).map Fr.key) (fun pre => pre.map Fx.key <+: (fitsW bs).map Fr.key) bs.length w := by
  intro l J Jx W hW hJ hZ hY hO h0
  have hcbW : W.cell? ⟨Bs, 0, none⟩ = some (.slice a bs.length cap) := (cell_block (hW.block Bs (World.block_lt_of_cell? _ _ hcb))).1.trans hcb
  have hrowW : RowAt W a bs := hrow.below hW
  have hBoW := hBo W hW
  have hn0W : n0 ≤ W.heap.size := Nat.le_trans hn0 hW.size
  clear hcb hrow hBo hW hn0
  have hBsl := World.block_lt_of_cell? _ _ hcbW
  simp only at hBsl
  refine (callsIn_wide (n := m)).2 ?_
  have cR := read_any a cap bs W hrowW (by omega)
  have HZ := hide hZ
  have HY := hide hY
  have HO := hide hO
  clear hZ hY hO
  show Calls Tryz.prog 104 #[.func (.yield l) #[] #[], .pointer (some ⟨Bs, 0, none⟩)] W _
  go_enter Tryz.func104, Tryz.ntmps104
  go_wp2_with fail
  refine cR.mono ?_
  rintro e w0 ⟨R, rfl, hR0, hSt0, hB0⟩
  clear cR
  go_wp2_with fail
  go_loopw [4] (fun _ wr => ∃ (cur : List Int) (pre : List Fx), St wr R cur 0 ∧ J pre wr ∧ Hid ((fitsW bs).map Fr.key = pre.map Fx.key ++ (fitsW cur).map Fr.key) ∧ Hid (∃ p, cur = bs.drop p ∧ p + cur.length = bs.length) ∧
      wr.cell? ⟨Bs, 0, none⟩ = some (.slice a bs.length cap) ∧ RowAt wr a bs ∧ Hid (∀ b, own wr b → b < W.heap.size ∨ R < b) ∧ ¬ own wr Bs ∧ W.heap.size ≤ wr.heap.size ∧ Hid (∀ x ∈ pre, ∀ ad, x.r.a = some ad → R < ad.block)) (fun _ wr => match wr.cell? ⟨R, 0, none⟩ with | some (.slice _ n _) => n | _ => 0)
  case atStart =>
    have g0 : W.grownBy w0 none := gb_below hB0 none
    obtain ⟨j1, j2⟩ := hJ [] W w0 none h0 g0 (fun r e => by cases e)
    exact ⟨bs, [], hSt0, j1, hide (by simp), hide ⟨0, by simp, by simp⟩, (cell_block (hB0.block Bs hBsl)).1.trans hcbW, hrowW.below hB0, hide (fun b q => .inl (HO.out [] W h0 b (j2 b q))), fun q => hBoW (j2 _ q), hB0.size, hide (by simp)⟩
  case round =>
    obtain ⟨cur, pre, hSt, hJs, hS0, hp, hcb, hrow, hown0, hBo, hWs, hpre⟩ := hrel
    have hR : R < wr.heap.size := hSt.1.1
    obtain ⟨hcz, hcl⟩ : (∀ z ∈ cur, 0 ≤ z ∧ z < 256) ∧ cur.length ≤ bs.length := by
      obtain ⟨p, q1, q2⟩ := hp.out
      exact ⟨fun z hz => hrow.2.1 z (List.mem_of_mem_drop (q1 ▸ hz)), by omega⟩
    have hown : Hid (∀ r, some R = some r → W.heap.size ≤ r ∧ ¬ own wr r ∧ ∀ x ∈ pre, ¬ x.blk r) := hide (fun r e => by
      cases e
      refine ⟨hR0, fun q => by rcases hown0.out R q with q | q <;> omega, fun x hx q => ?_⟩
      obtain ⟨-, ad, q1, q2⟩ := q
      have := hpre.out x hx ad q1
      omega)
    have hch := hide (chain cur)
    have c1 := raw_any R cur 0 3 wr hSt (by omega)
    have l1 := (rawS_len cur 0 3).1
    obtain ⟨d1, r1, e1, E1⟩ : ∃ d1 r1 e1, Hid (rawS cur 0 3 = (d1, r1, e1)) := ⟨_, _, _, hide rfl⟩
    rw [E1.out] at c1 l1
    simp only at c1 l1
    have HCH := hch.out
    rw [E1.out] at HCH
    simp only at HCH
    have l2 := (rawS_len r1 e1 1).1
    obtain ⟨d2, r2, e2, E2⟩ : ∃ d2 r2 e2, Hid (rawS r1 e1 1 = (d2, r2, e2)) := ⟨_, _, _, hide rfl⟩
    rw [E2.out] at HCH l2
    simp only at HCH l2
    obtain ⟨d3, r3, e3, E3⟩ : ∃ d3 r3 e3, Hid (textS r2 e2 4194304 = (d3, r3, e3)) := ⟨_, _, _, hide rfl⟩
    rw [E3.out] at HCH
    simp only at HCH
    have hch := hide HCH
    clear HCH
    go_wp2_with fail
    refine c1.mono ?_
    rintro e w1 ⟨v1, rfl, hM1, hS1, G1⟩
    clear c1
    have hcb1 : w1.cell? ⟨Bs, 0, none⟩ = some (.slice a bs.length cap) := G1.cell hcb (by simp; omega)
    go_wp2_with fail
    obtain ⟨w8, hw8⟩ : ∃ w8, w1.drew = w8 := ⟨_, rfl⟩
    have hB8 : Below w1.heap.size w1 w8 := by rw [← hw8]; exact (Below.refl _ _).drew
    have G8 : wr.grownBy w8 (some R) := by rw [← hw8]; exact gb_drew G1
    have kB : ∀ w', Below w8.heap.size w8 w' → w'.cell? ⟨Bs, 0, none⟩ = some (.slice a bs.length cap) := fun w' hw => (cell_block ((hB8.trans (hw.mono hB8.size)).block Bs (World.block_lt_of_cell? _ _ hcb1))).1.trans hcb1
    have hS8 : St w8 R r1 e1 := hS1.below hB8
    have cL1 := leftR_any R r1 e1 w8 hS8
    obtain ⟨ln, hln, hle⟩ : ∃ ln : Nat, Hid ((if e1 = 0 then (r1.length : Int) else 0) = (ln : Int)) ∧ ln ≤ bs.length := by
      by_cases q : e1 = 0
      · exact ⟨r1.length, hide (by rw [if_pos q]), by omega⟩
      · exact ⟨0, hide (by rw [if_neg q]; rfl), by omega⟩
    rw [hln.out] at cL1
    obtain ⟨fr, hfr⟩ : ∃ fr : Nat, Hid (fr + ln = bs.length) := ⟨bs.length - ln, hide (by omega)⟩
    have F1 : (bs.length : Int) - (ln : Int) = (fr : Int) := by have := hfr.out; omega
    have F2 : IntKind.i64.wrap (fr : Int) = (fr : Int) := Cr.Crc.wrap_i64_small fr (by have := hfr.out; omega)
    refine hs_begin (S := (Below w8.heap.size w8)) 6 rfl (by kernel_rfl) ?_
    rw [hw8]
    clear hw8
    have hS : (Below w8.heap.size w8) w8 := Below.refl _ _
    refine hs_take (i := 0) (d := some 12) (v := ?_) rfl (by kernel_rfl) (by kernel_rfl) (by kernel_rfl) (by rfl) ?_ hS rfl ?_
    rotate_left
    · intro w' hw
      have := kB w' hw
      go_simp
      try with_reducible rfl
    simp only [Act.put, List.setIfInBounds_toArray, List.set_cons_zero, List.set_cons_succ]
    refine hs_take (i := 1) (d := some 13) (v := ?_) rfl (by kernel_rfl) (by kernel_rfl) (by kernel_rfl) (by rfl) ?_ hS rfl ?_
    rotate_left
    · intro w' hw
      go_simp
      try with_reducible rfl
    simp only [Act.put, List.setIfInBounds_toArray, List.set_cons_zero, List.set_cons_succ]
    refine hs_take (i := 2) (d := some 14) (v := ?_) rfl (by kernel_rfl) (by kernel_rfl) (by kernel_rfl) (by rfl) ?_ hS rfl ?_
    rotate_left
    · intro w' hw
      go_simp
      try with_reducible rfl
    simp only [Act.put, List.setIfInBounds_toArray, List.set_cons_zero, List.set_cons_succ]
    refine hs_call (i := 3) (d := some 15) rfl (by kernel_rfl) (by rfl) (by go_simp; first | done | exact ⟨rfl, rfl⟩ | with_reducible rfl) rfl ?_
    refine (cL1).mono ?_
    rintro e' wq ⟨rfl, hx⟩
    have hS : Below w8.heap.size w8 wq := by rw [hx]; exact hS
    refine ⟨_, rfl, hS, ?_⟩
    simp only [Act.put, List.setIfInBounds_toArray, List.set_cons_zero, List.set_cons_succ]
    obtain rfl := hx.symm
    clear hx
    refine hs_take (i := 4) (d := some 16) (v := .int .i64 (fr : Int)) rfl (by kernel_rfl) (by kernel_rfl) (by kernel_rfl) (by rfl) (fun w' hw => by go_simp) hS rfl ?_
    simp only [Act.put, List.setIfInBounds_toArray, List.set_cons_zero, List.set_cons_succ]
    refine hs_take (i := 5) (d := some 5) (v := ?_) rfl (by kernel_rfl) (by kernel_rfl) (by kernel_rfl) (by rfl) ?_ hS rfl ?_
    rotate_left
    · intro w' hw
      go_simp
      try with_reducible rfl
    simp only [Act.put, List.setIfInBounds_toArray, List.set_cons_zero, List.set_cons_succ]
    refine hs_done (by kernel_rfl) ?_
    clear cL1 F1 F2 hS
    have c2 := raw_any R r1 e1 1 w8 hS8 (by omega)
    rw [E2.out] at c2
    simp only at c2
    go_wp2_with fail
    refine c2.mono ?_
    rintro e w2 ⟨v2, rfl, hM2, hS2, G2⟩
    clear c2
    have c3 := text_any R r2 e2 4194304 w2 hS2 hS2.pos
    rw [E3.out] at c3
    simp only at c3
    go_wp2_with fail
    refine c3.mono ?_
    rintro e w3 ⟨rfl, hS3, G3⟩
    clear c3
    have c4 := err_made R e3 w3 hS3.1
    have hcb3 : w3.cell? ⟨Bs, 0, none⟩ = some (.slice a bs.length cap) := G3.cell (G2.cell (kB w8 (Below.refl _ _)) (by simp; omega)) (by simp; omega)
    have G5 : wr.grownBy w3 (some R) := gb_trans (gb_trans G8 G2) G3
    by_cases he3 : e3 = 0
    rotate_left
    · have hfn := hch.out.1 he3
      have hfit : Hid (fitsW cur = []) := hide (by rw [fitsW_step hcz, hfn])
      have n3 : (e3 != 0) = true := bne_iff_ne.2 he3
      clear he3 hS3 hS2 hM2 hM1 hS1 hS8
      go_wp2_with fail
      refine c4.mono ?_
      rintro e w4 ⟨rfl, hx⟩
      obtain rfl := hx.symm
      clear hx c4
      go_wp2
      refine bodyPost_ret (results_none rfl _ _ _) rfl ?_
      exact ⟨⟨_, rfl⟩, .inl ⟨pre, by rw [hS0.out, hfit.out]; simp, (hJ pre wr _ (some R) hJs G5 hown.out).1⟩⟩
    · subst he3
      obtain ⟨h4, x1, x2⟩ := hch.out.2 rfl
      have y1 := x1
      simp only [Prod.mk.injEq] at y1
      obtain ⟨y1, y2, y3⟩ := y1
      have y4 := E2.out
      rw [y2, y3] at y4
      have y5 := y4.symm.trans x2
      simp only [Prod.mk.injEq] at y5
      obtain ⟨y5, y6, y7⟩ := y5
      have hT : textS (cur.drop 4) 0 4194304 = (d3, r3, 0) := by have q := E3.out; rw [y6, y7] at q; exact q
      obtain ⟨-, z1, z2⟩ := fits_iff hcz h4 hT
      have y8 := hln.out
      rw [if_pos y3, y2, List.length_drop] at y8
      obtain ⟨p, hp1, hp2⟩ := hp.out
      have hfrp : fr = p + 3 := by have := hfr.out; omega
      obtain ⟨to, hto⟩ : ∃ to : Nat, to + r3.length = bs.length := ⟨bs.length - r3.length, by omega⟩
      have hft : fr ≤ to := by omega
      have htc : to ≤ cap := by omega
      have hfc : fr < cap := by omega
      have hcN : cap ≠ fr := by omega
      obtain ⟨b, off, rfl, -, -, -, -⟩ := hrow.get 0 (by omega)
      obtain ⟨k, hk⟩ : ∃ k, d2 = [k] ∧ k = cur.getD 3 0 := by
        refine ⟨cur.getD 3 0, ?_, rfl⟩
        rw [y5, List.drop_eq_getElem_cons (by omega : 3 < cur.length), List.getD_eq_getElem?_getD, List.getElem?_eq_getElem (by omega : 3 < cur.length)]
        rfl
      obtain ⟨hk, hkk⟩ := hk
      have ezs : (bs.drop fr).take (to - fr) = (cur.drop 3).take (cur.length - r3.length - 3) := by
        rw [hp1, List.drop_drop, hfrp, List.length_drop]
        congr 1
        have : p + cur.length = bs.length := hp2
        omega
      have hfitE : Hid (fitW cur = if (crcN ((bs.drop fr).take (to - fr)) == sumN d1) = true then some ⟨k, d3, cur.length - r3.length⟩ else none) := hide (by
        unfold fitW
        rw [if_neg (by omega), hT]
        simp only
        rw [if_neg (c := (0 : Int) ≠ 0) (by simp), ← ezs, ← y1, ← hkk]
        by_cases q : crcN ((bs.drop fr).take (to - fr)) = sumN d1
        · rw [if_neg (by simpa using q), if_pos (by simpa using q)]
        · rw [if_pos q, if_neg (by simpa using q)])
      have hd1l : d1.length ≤ 3 := by rw [y1, List.length_take]; omega
      have hm1 : d1.length ≤ maxLen := by unfold maxLen; omega
      have hm2 : d2.length ≤ maxLen := by rw [hk]; unfold maxLen; simp
      obtain ⟨a1, cap1, rfl, -, -, hr1⟩ := hM1.rowAt hm1
      obtain ⟨a2, cap2, rfl, hc2, hc2', hr2⟩ := hM2.rowAt hm2
      have ne1 : ∀ x, a1 = some x → x.block ≠ R := fun x hx => by have := (hM1.1.lt x.block (by simp [hx, Value.ownBlock])).1; omega
      have ne2 : ∀ x, a2 = some x → x.block ≠ R := fun x hx => by have := (hM2.1.lt x.block (by simp [hx, Value.ownBlock])).1; have := G8.size; omega
      have hr1' : RowAt w3 a1 d1 := RowAt.gb (RowAt.gb (hr1.below hB8) G2 (.inr ne1)) G3 (.inr ne1)
      have hr2' : RowAt w3 a2 d2 := RowAt.gb hr2 G3 (.inr ne2)
      subst hk
      have hbR : b ≠ R := fun q => by
        have hb0 := hrowW.get 0 (by omega)
        obtain ⟨b', off', q1, q2, -⟩ := hb0
        cases q1
        omega
      have hrow3 : RowAt w3 (some ⟨b, off, none⟩) bs := RowAt.gb hrow G5 (.inr (fun x hx => by cases hx; exact hbR))
      have hcd : 0 ≤ k ∧ k < 256 ∧ (∀ z ∈ d3, 0 ≤ z ∧ z < 256) ∧ d3.length ≤ 100000000 := by
        obtain ⟨⟨pc, pn, hpp⟩, -⟩ := textS_part (cur.drop 4) 0 4194304
        rw [hT] at hpp
        simp only at hpp
        have hkm : k ∈ cur := by
          rw [hkk, List.getD_eq_getElem?_getD, List.getElem?_eq_getElem (show 3 < cur.length by omega)]
          exact List.getElem_mem _
        refine ⟨(hcz _ hkm).1, (hcz _ hkm).2, fun z q => ?_, ?_⟩
        · rw [hpp] at q
          exact hcz z (List.mem_of_mem_drop (List.mem_of_mem_drop (List.mem_of_mem_take q)))
        · rw [hpp]
          simp only [List.length_take, List.length_drop]
          omega
      obtain ⟨hk0, hk1, hd3z, hd3l⟩ := hcd
      have hdrop : r3 = cur.drop (cur.length - r3.length) := z2
      have hstep := hide (fitsW_step hcz)
      have hpn : Hid (∃ p, r3 = bs.drop p ∧ p + r3.length = bs.length) := hide ⟨p + (cur.length - r3.length), by
        have : bs.drop (p + (cur.length - r3.length)) = cur.drop (cur.length - r3.length) := by rw [← List.drop_drop, ← hp1]
        rw [this]; exact hdrop, by omega⟩
      have HD := hide (And.intro hdrop (And.intro z1 hkk))
      clear hch hS2 hM2 hM1 hS1 hS8 E1 E2 E3 x1 x2 y1 y2 y3 y4 y5 y6 y7 y8 hT hdrop hkk z1 z2 hp1 hp2 hp hr1 hr2 hfrp ezs
      obtain ⟨ft, hft'⟩ : ∃ ft, Hid ((crcN ((bs.drop fr).take (to - fr)) == sumN d1) = ft) := ⟨_, hide rfl⟩
      go_wp2_with fail
      refine c4.mono ?_
      rintro e w4 ⟨rfl, hx⟩
      obtain rfl := hx.symm
      clear hx c4
      go_wp2_with fail
      obtain ⟨w9, hw9⟩ : ∃ w9, w3.drew = w9 := ⟨_, rfl⟩
      have hB9 : Below w3.heap.size w3 w9 := by rw [← hw9]; exact (Below.refl _ _).drew
      have kB9 : ∀ w', Below w9.heap.size w9 w' → w'.cell? ⟨Bs, 0, none⟩ = some (.slice (some ⟨b, off, none⟩) bs.length cap) := fun w' hw => (cell_block ((hB9.trans (hw.mono hB9.size)).block Bs (World.block_lt_of_cell? _ _ hcb3))).1.trans hcb3
      have cL9 := leftR_any R r3 0 w9 (hS3.below hB9)
      rw [if_pos rfl] at cL9
      have cS9 := jsumOf_any a1 cap1 d1 w9 (hr1'.below hB9) hd1l
      have T2 : (bs.length : Int) - (r3.length : Int) = (to : Int) := by omega
      have T3 : IntKind.i64.wrap (to : Int) = (to : Int) := Cr.Crc.wrap_i64_small to (by omega)
      have hrz : RowAt w9 (some ⟨b, off + fr, none⟩) ((bs.drop fr).take (to - fr)) := by
        have q := (hrow3.below hB9).drop fr cap (by omega) hc
        unfold cutA at q
        rw [if_neg hcN] at q
        have q2 := q.take (to - fr)
        simpa only [Option.map_some, Addr.add_mid] using q2
      have cF := cfits_any (some ⟨b, off + fr, none⟩) (cap - fr) ((bs.drop fr).take (to - fr)) (sumN d1) w9 hrz
      have hzl : ((bs.drop fr).take (to - fr)).length = to - fr := by rw [List.length_take, List.length_drop]; omega
      rw [hzl, hft'.out] at cF
      clear hrz hzl
      obtain ⟨sn, hsn⟩ : ∃ sn, Hid (sumN d1 = sn) := ⟨_, hide rfl⟩
      rw [hsn.out] at cS9 cF
      refine hs_begin (S := (Below w9.heap.size w9)) 12 rfl (by kernel_rfl) ?_
      rw [hw9]
      clear hw9
      have hS : (Below w9.heap.size w9) w9 := Below.refl _ _
      refine hs_take (i := 0) (d := some 24) (v := ?_) rfl (by kernel_rfl) (by kernel_rfl) (by kernel_rfl) (by rfl) ?_ hS rfl ?_
      rotate_left
      · intro w' hw
        have := kB9 w' hw
        go_simp
        try with_reducible rfl
      simp only [Act.put, List.setIfInBounds_toArray, List.set_cons_zero, List.set_cons_succ]
      refine hs_take (i := 1) (d := some 25) (v := ?_) rfl (by kernel_rfl) (by kernel_rfl) (by kernel_rfl) (by rfl) ?_ hS rfl ?_
      rotate_left
      · intro w' hw
        go_simp
        try with_reducible rfl
      simp only [Act.put, List.setIfInBounds_toArray, List.set_cons_zero, List.set_cons_succ]
      refine hs_take (i := 2) (d := some 26) (v := ?_) rfl (by kernel_rfl) (by kernel_rfl) (by kernel_rfl) (by rfl) ?_ hS rfl ?_
      rotate_left
      · intro w' hw
        have := kB9 w' hw
        go_simp
        try with_reducible rfl
      simp only [Act.put, List.setIfInBounds_toArray, List.set_cons_zero, List.set_cons_succ]
      refine hs_take (i := 3) (d := some 27) (v := ?_) rfl (by kernel_rfl) (by kernel_rfl) (by kernel_rfl) (by rfl) ?_ hS rfl ?_
      rotate_left
      · intro w' hw
        go_simp
        try with_reducible rfl
      simp only [Act.put, List.setIfInBounds_toArray, List.set_cons_zero, List.set_cons_succ]
      refine hs_take (i := 4) (d := some 28) (v := ?_) rfl (by kernel_rfl) (by kernel_rfl) (by kernel_rfl) (by rfl) ?_ hS rfl ?_
      rotate_left
      · intro w' hw
        go_simp
        try with_reducible rfl
      simp only [Act.put, List.setIfInBounds_toArray, List.set_cons_zero, List.set_cons_succ]
      refine hs_take (i := 8) (d := some 32) (v := ?_) rfl (by kernel_rfl) (by kernel_rfl) (by kernel_rfl) (by rfl) ?_ hS rfl ?_
      rotate_left
      · intro w' hw
        go_simp
        try with_reducible rfl
      simp only [Act.put, List.setIfInBounds_toArray, List.set_cons_zero, List.set_cons_succ]
      refine hs_call (i := 5) (d := some 29) rfl (by kernel_rfl) (by rfl) (by go_simp; first | done | exact ⟨rfl, rfl⟩ | with_reducible rfl) rfl ?_
      refine (cL9).mono ?_
      rintro e' wq ⟨rfl, hx⟩
      have hS : Below w9.heap.size w9 wq := by rw [hx]; exact hS
      refine ⟨_, rfl, hS, ?_⟩
      simp only [Act.put, List.setIfInBounds_toArray, List.set_cons_zero, List.set_cons_succ]
      obtain rfl := hx.symm
      clear hx
      refine hs_take (i := 6) (d := some 30) (v := .int .i64 (to : Int)) rfl (by kernel_rfl) (by kernel_rfl) (by kernel_rfl) (by rfl) (fun w' hw => by go_simp) hS rfl ?_
      simp only [Act.put, List.setIfInBounds_toArray, List.set_cons_zero, List.set_cons_succ]
      refine hs_take (i := 7) (d := some 31) (v := .slice (some ⟨b, off + fr, none⟩) (to - fr) (cap - fr)) rfl (by kernel_rfl) (by kernel_rfl) (by kernel_rfl) (by rfl) (fun w' hw => ex_slice (lo := fr) (hi := to) rfl rfl rfl rfl hft htc hfc hcm) hS rfl ?_
      simp only [Act.put, List.setIfInBounds_toArray, List.set_cons_zero, List.set_cons_succ]
      refine hs_call (i := 9) (d := some 33) rfl (by kernel_rfl) (by rfl) (by go_simp; first | done | exact ⟨rfl, rfl⟩ | with_reducible rfl) rfl ?_
      refine (cS9).mono ?_
      rintro e' wq ⟨rfl, hx⟩
      have hS : Below w9.heap.size w9 wq := by rw [hx]; exact hS
      refine ⟨_, rfl, hS, ?_⟩
      simp only [Act.put, List.setIfInBounds_toArray, List.set_cons_zero, List.set_cons_succ]
      obtain rfl := hx.symm
      clear hx
      refine hs_call (i := 10) (d := some 34) rfl (by kernel_rfl) (by rfl) (by go_simp; first | done | exact ⟨rfl, rfl⟩ | with_reducible rfl) rfl ?_
      refine (cF).mono ?_
      rintro e' w10 ⟨rfl, hB10⟩
      have hS : Below w9.heap.size w9 w10 := hB10
      refine ⟨_, rfl, hS, ?_⟩
      simp only [Act.put, List.setIfInBounds_toArray, List.set_cons_zero, List.set_cons_succ]
      refine hs_take (i := 11) (d := some 35) (v := .bool (!ft)) rfl (by kernel_rfl) (by kernel_rfl) (by kernel_rfl) (by rfl) (fun w' hw => by go_simp) hS rfl ?_
      simp only [Act.put, List.setIfInBounds_toArray, List.set_cons_zero, List.set_cons_succ]
      refine hs_done (by kernel_rfl) ?_
      clear cL9 cS9 cF T2 T3
      have hB10' : Below w3.heap.size w3 w10 := hB9.trans (hB10.mono hB9.size)
      have G10 : wr.grownBy w10 (some R) := gb_trans G5 (gb_below hB10' _)
      cases ft with
      | false =>
        have hfit : Hid (fitsW cur = []) := hide (by rw [hstep.out, hfitE.out, hft'.out]; rfl)
        go_wp2
        refine bodyPost_ret (results_none rfl _ _ _) rfl ?_
        exact ⟨⟨_, rfl⟩, .inl ⟨pre, by rw [hS0.out, hfit.out]; simp, (hJ pre wr _ (some R) hJs G10 hown.out).1⟩⟩
      | true =>
        have hfit : Hid (fitsW cur = ⟨k, d3, cur.length - r3.length⟩ :: fitsW r3) := hide (by
          rw [hstep.out, hfitE.out, hft'.out, if_pos rfl]
          simp only
          rw [← HD.out.1])
        obtain ⟨b2, o2, hA2, -, hk2, -, -⟩ := (hr2'.below hB10').get 0 (by simp)
        subst hA2
        rw [Nat.add_zero] at hk2
        have hk2 : w10.cell? ⟨b2, o2, none⟩ = some (.int .u8 k) := hk2
        obtain ⟨ccap, w11, kc, hrc, hcc, hcc', hB11, hlt11⟩ := row_bytes d3 w10 hd3z hd3l
        have G11 : wr.grownBy w11 (some R) := gb_trans G10 (gb_below hB11 _)
        obtain ⟨j1, j2⟩ := hJ pre wr w11 (some R) hJs G11 hown.out
        have hlen : pre.length < bs.length := by
          have q := congrArg List.length hS0.out
          rw [hfit.out] at q
          have q2 := fitsW_len hrow.2.1
          simp only [List.length_map, List.length_append, List.length_cons] at q
          omega
        have hXF : XF n0 own ⟨k, ⟨some ⟨w10.heap.size, 0, none⟩, ccap, d3⟩⟩ w11 := ⟨hrc, hk0, hk1, hd3l, hcc, hcc', fun ad q => by
          cases q
          refine ⟨by have := G10.size; show n0 ≤ w10.heap.size; omega, hlt11, fun q => ?_⟩
          have := HO.out pre wr hJs _ (j2 _ q)
          have := G10.size
          simp only at *
          omega⟩
        have hYk := HY.out pre ⟨k, ⟨some ⟨w10.heap.size, 0, none⟩, ccap, d3⟩⟩ w11 j1 hXF (by have := G11.size; omega) hlen
        have hS11 : St w11 R r3 0 := (hS3.below hB10').below hB11
        have hcb11 : w11.cell? ⟨Bs, 0, none⟩ = some (.slice (some ⟨b, off, none⟩) bs.length cap) := (cell_block (hB11.block Bs (World.block_lt_of_cell? _ _ (kB9 w10 hB10)))).1.trans (kB9 w10 hB10)
        have hrow11 : RowAt w11 (some ⟨b, off, none⟩) bs := (hrow3.below hB10').below hB11
        have hown11 : ∀ b, own w11 b → b < W.heap.size ∨ R < b := fun b q => hown0.out b (j2 b q)
        have hBo11 : ¬ own w11 Bs := fun q => hBo (j2 _ q)
        have hnR : ¬ own w11 R := fun q => by rcases hown11 R q with q | q <;> omega
        have hZ11 := HZ.out pre w11 j1
        have hfk : Hid ((fitsW bs).map Fr.key = (pre ++ [(⟨k, ⟨some ⟨w10.heap.size, 0, none⟩, ccap, d3⟩⟩ : Fx)]).map Fx.key ++ (fitsW r3).map Fr.key) := hide (by rw [hS0.out, hfit.out]; simp [Fx.key, Fr.key])
        have HM : Hid (r3.length < cur.length) := hide (by have := HD.out.2.1; omega)
        obtain ⟨ra, rc, hRc, -, -, -, -⟩ := hSt.2 rfl
        have HRc := hide hRc
        have HAll := hide (And.intro hS11 (And.intro hcb11 (And.intro hrow11 (And.intro hown11 (And.intro hBo11 (And.intro hnR (And.intro hZ11 G11)))))))
        clear hS11 hcb11 hrow11 hown11 hBo11 hnR hZ11 hRc hXF j1 j2 hstep hfitE hft' hrow3 hr2' hr1' hS3 hcb3 kB kB9 hfit HD
        unfold encF at hYk
        simp only at hYk
        obtain ⟨fn, tmps, assign, body, hy, hRo⟩ := hYk
        go_upto_region 7 with fail
        refine (wpIn_wide (n := m)).1 ?_
        gi_wp2
        refine ⟨fun q => by simp [Fence.wide] at q, hRo.mono ?_⟩
        rintro e w12 (⟨rfl, hJ4, hKp⟩ | ⟨rfl, hJx⟩)
        · gi_wp2
          go_wp2
          obtain ⟨aS, acb, arow, aown, aBo, anR, aZ, aG⟩ := HAll.out
          have nrow : ∀ (b' o' : Nat) (z : Int), b' < R → w11.cell? ⟨b', o', none⟩ = some (.int .u8 z) → ¬ own w11 b' := fun b' o' z hb' hc' q => by
            rcases aown b' q with q1 | q1
            · exact aZ b' q q1 o' .u8 z hc'
            · omega
          have hSt12 : St w12 R r3 0 := by
            refine ⟨aS.1.below (hKp.block aS.1.2.2.1 anR) hKp.size, fun _ => ?_⟩
            obtain ⟨ra', rc', q0, q1, q2, q3, q4⟩ := aS.2 rfl
            refine ⟨ra', rc', (cell_block (hKp.block q0 anR)).1.trans q0, q1, q2, hKp.row q3 (fun b' o' z hb' hc' => nrow b' o' z (q4 _ hb') hc'), q4⟩
          go_roundw
          case rel =>
            refine ⟨r3, pre ++ [⟨k, ⟨some ⟨w10.heap.size, 0, none⟩, ccap, d3⟩⟩], hSt12, hJ4, hfk, hpn, (cell_block (hKp.block acb aBo)).1.trans acb, hKp.row arow (fun b' o' z hb' hc' => nrow b' o' z ?_ hc'), hide (fun b' q => ?_), fun q => ?_, ?_, hide (fun x hx ad q => ?_)⟩
            · cases hb'
              obtain ⟨b3, o3, q1, q2, -⟩ := hrowW.get 0 (by omega)
              cases q1
              omega
            · rcases hKp.new b' q with q | q
              · exact aown b' q
              · have := aG.size; right; omega
            · rcases hKp.new _ q with q | q
              · exact aBo q
              · have := aG.size; omega
            · have := aG.size; have := hKp.size; omega
            · rcases List.mem_append.1 hx with hx | hx
              · exact hpre.out x hx ad q
              · rw [List.mem_singleton.1 hx] at q
                cases q
                have := G10.size
                show R < w10.heap.size
                omega
          case measure =>
            obtain ⟨ra', rc', q0, -⟩ := hSt12.2 rfl
            rw [q0, HRc.out]
            exact HM.out
        · gi_wp2
          go_wp2
          refine bodyPost_ret (results_none rfl _ _ _) rfl ?_
          exact ⟨⟨_, rfl⟩, .inr ⟨_, ⟨_, hfk.out.symm⟩, hJx⟩⟩
end Go.Proofs.YtfkchnjbbbhmjaaGreat.Ty
