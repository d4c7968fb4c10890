/- a journal: what is told of it; Sync, Append; two rows that grow: kinds and records; the document's Frames; the document's Frames; crc24's Fits; the document's Same: two lists of records; the frames that fit, of whatever kind; a loop over an iterator that keeps memory of its own, and whose elements lie in memory: the elements' own fact goes with them; A region that draws its order: what only reads is taken as soon as it may come up, over worlds that have grown since the last call; behind each call the condition turns to the new world. One way through the region.; The document's reader: Raw.; Two readers of the same bytes, side by side. -/
import Derived.Test.YtfkchnjbbbhmjaaXF4
import Derived.Test.YtfkchnjbbbhmjaaXF6
import Derived.Test.YtfkchnjbbbhmjaaXF7
import Derived.Test.YtfkchnjbbbhmjaaXF1
import Derived.RangeFuncNested
import Derived.RangeFuncCalls
import Derived.OrdersIn
import Derived.WalkKit
import Derived.Deep.RegionHeld3
import Derived.Test.YtfkchnjbbbhmjaaXF5
namespace Go.Proofs.Ytfkchnjbbbhmjaa
open Go.RowKit
structure Jv where
  q : Nat
  p : Nat
  ar : Int
  tu : Int
  fs : Int
def jcells (j : Jv) : List Value := [.pointer (some ⟨j.p, 0, none⟩), .int .i64 j.ar, .int .i64 j.tu, .int .i64 j.fs]
structure JAt (w : World) (j : Jv) : Prop where
  c : w.rangeAt j.q 0 (jcells j)
  th : w.there j.q 0 4
theorem JAt.at {w w' : World} {j : Jv} (h : JAt w j) (hb : w'.heap[j.q]? = w.heap[j.q]?) : JAt w' j := ⟨range_at h.c hb, there_at h.th hb⟩
theorem JAt.lt {w : World} {j : Jv} (h : JAt w j) : j.q < w.heap.size := there_lt h.th (by omega)
theorem JAt.below {w w' : World} {j : Jv} (h : JAt w j) (hb : Below w.heap.size w w') : JAt w' j := h.at (hb.block _ h.lt)
theorem JAt.cell {w : World} {j : Jv} (h : JAt w j) (i : Nat) {v : Value} (hv : (jcells j)[i]? = some v) : w.cell? ⟨j.q, i, none⟩ = some v := by
  have := h.c i v hv
  rwa [Nat.zero_add] at this
def jptr (j : Jv) : Value := .pointer (some ⟨j.q, 0, none⟩)
/-- is there power for a journal? -/
def Mt.jon (M : Mt) (fs : Int) : Bool := M.on && decide (M.fa = fs)
set_option maxRecDepth 100000 in
set_option maxHeartbeats 4000000 in
theorem jmade_any (j : Jv) (w : World) (h : JAt w j) : Calls Try.prog 75 #[jptr j] w fun e w' => e = .returned (.bool true) ∧ w' = w := by
  have h0 := h.cell 0 rfl
  clear h
  unfold jptr
  go_enter Try.func75, Try.ntmps75
  go_wp2_with fail
  go_ret
  exact ⟨rfl, rfl⟩
set_option maxRecDepth 100000 in
set_option maxHeartbeats 4000000 in
theorem jturn_any (j : Jv) (w : World) (h : JAt w j) : Calls Try.prog 57 #[jptr j] w fun e w' => e = .returned (.int .i64 j.tu) ∧ w' = w := by
  have cm := jmade_any j w h
  have h2 := h.cell 2 rfl
  clear h
  unfold jptr at *
  go_enter Try.func57, Try.ntmps57
  go_wp2_with fail
  refine cm.mono ?_
  rintro e w' ⟨rfl, hw⟩
  obtain rfl := hw.symm
  clear cm hw
  go_wp2_with fail
  go_ret
  exact ⟨rfl, rfl⟩
set_option maxRecDepth 100000 in
set_option maxHeartbeats 4000000 in
theorem jon_any (j : Jv) (M : Mt) (A : Nat → Prop) (w : World) (h : JAt w j) (hT : Live A w j.p M) : Calls Try.prog 100 #[jptr j] w fun e w' => e = .returned (.bool (M.jon j.fs)) ∧ Below w.heap.size w w' := by
  have cm := jmade_any j w h
  have h0 := h.cell 0 rfl
  have cC := live_counts hT
  unfold Mt.jon
  unfold jptr at *
  go_enter Try.func100, Try.ntmps100
  go_wp2_with fail
  refine cm.mono ?_
  rintro e w' ⟨rfl, hw⟩
  obtain rfl := hw.symm
  clear cm hw
  go_wp2_with fail
  refine cC.mono ?_
  rintro e w1 ⟨rfl, hB1⟩
  clear cC
  have cO := live_on (hT.below hB1)
  have g0 := (h.below hB1).cell 0 rfl
  have g3 := (h.below hB1).cell 3 rfl
  cases hon : M.on
  · rw [hon] at cO
    have HON := hide hon
    clear hon h0
    go_wp2_with fail
    refine cO.mono ?_
    rintro e w2 ⟨rfl, hx⟩
    obtain rfl := hx.symm
    clear cO hx
    go_wp2_with fail
    go_ret
    exact ⟨by rw [HON.out]; rfl, hB1⟩
  · rw [hon] at cO
    have HON := hide hon
    clear hon h0
    go_wp2_with fail
    refine cO.mono ?_
    rintro e w2 ⟨rfl, hx⟩
    obtain rfl := hx.symm
    clear cO hx
    by_cases hf : M.fa = j.fs
    · have hd : decide (M.fa = j.fs) = true := decide_eq_true hf
      have hf' : (M.fa == j.fs) = true := by simpa using hf
      go_wp2_with fail
      go_ret
      exact ⟨by rw [HON.out]; first | rfl | (simp [hf]), hB1⟩
    · have hf' : (M.fa == j.fs) = false := by simpa using hf
      go_wp2_with fail
      go_ret
      exact ⟨by rw [HON.out]; first | rfl | (simp [hf]), hB1⟩
/-- a record in memory -/
structure Rc where
  a : Option Addr
  cap : Nat
  zs : List Int
deriving Inhabited
def Rc.cells (r : Rc) : List Value := [.slice r.a r.zs.length r.cap]
structure Rc.ok (w : World) (r : Rc) : Prop where
  row : RowAt w r.a r.zs
  le : r.zs.length ≤ r.cap
  cm : r.cap ≤ maxLen
/-- may records be taken? -/
def takesE (on : Bool) (rs : List Rc) : Int := if on then if ∀ r ∈ rs, r.zs.length ≤ 4194304 then 0 else 3 else 150
set_option maxRecDepth 100000 in
set_option maxHeartbeats 4000000 in
theorem jtakes_any (j : Jv) (M : Mt) (A : Nat → Prop) (ra : Option Addr) (rc : Nat) (rs : List Rc) (w : World) (h : JAt w j) (hT : Live A w j.p M) (hr : RowOf Rc.cells w ra rs) (hl : rs.length ≤ maxLen) :
    Calls Try.prog 76 #[jptr j, .slice ra rs.length rc] w fun e w' => e = .returned (.int .i64 (takesE (M.jon j.fs) rs)) ∧ Below w.heap.size w w' := by
  have cm := jmade_any j w h
  have cO := jon_any j M A w h hT
  unfold maxLen at hl
  unfold jptr at *
  cases hon : M.jon j.fs
  · rw [hon] at cO
    have HE : Hid (takesE false rs = 150) := hide rfl
    rw [HE.out]
    clear hon HE h hT
    go_enter Try.func76, Try.ntmps76
    go_wp2_with fail
    refine cm.mono ?_
    rintro e w' ⟨rfl, hw⟩
    obtain rfl := hw.symm
    clear cm hw
    go_wp2_with fail
    refine cO.mono ?_
    rintro e w' ⟨rfl, hw⟩
    clear cO
    go_wp2_with fail
    go_ret
    exact ⟨rfl, hw⟩
  · rw [hon] at cO
    have HE : Hid (takesE true rs = if ∀ r ∈ rs, r.zs.length ≤ 4194304 then 0 else 3) := hide rfl
    rw [HE.out]
    clear hon HE h hT
    obtain ⟨te, hte⟩ : ∃ te, Hid ((if ∀ r ∈ rs, r.zs.length ≤ 4194304 then (0 : Int) else 3) = te) := ⟨_, hide rfl⟩
    rw [hte.out]
    go_enter Try.func76, Try.ntmps76
    go_wp2_with fail
    refine cm.mono ?_
    rintro e w' ⟨rfl, hw⟩
    obtain rfl := hw.symm
    clear cm hw
    go_wp2_with fail
    refine cO.mono ?_
    rintro e w1 ⟨rfl, hB1⟩
    clear cO
    go_wp2_with fail
    go_loopw [17] (fun iv wr => ∃ k : Nat, k ≤ rs.length ∧ iv = .int .i64 (k : Int) ∧ wr = w1 ∧ Hid (∀ i, (hi : i < rs.length) → i < k → rs[i].zs.length ≤ 4194304)) (fun iv _ => rs.length - (intOf iv).toNat)
    case atStart => exact ⟨0, by omega, rfl, rfl, hide (fun i hi h0 => by omega)⟩
    case round =>
      obtain ⟨k, hk, rfl, hw, HP⟩ := hrel
      obtain rfl := hw.symm
      clear hw
      by_cases hlt : k < rs.length
      · have hltI : (k : Int) < (rs.length : Int) := by omega
        obtain ⟨rb, off, rfl, hrb, hre0⟩ := hr.elem (k := 1) (fun _ _ => rfl) k hlt
        have c0 : w1.cell? ⟨rb, off + k, none⟩ = some (.slice rs[k].a rs[k].zs.length rs[k].cap) := by
          have := (range_below hre0 hB1 hrb) 0 _ rfl
          simpa using this
        obtain ⟨y, hy⟩ : ∃ y, Hid (rs[k] = y) := ⟨_, hide rfl⟩
        rw [hy.out] at c0
        by_cases hlong : y.zs.length ≤ 4194304
        · have HQ : Hid (∀ i, (hi : i < rs.length) → i < k + 1 → rs[i].zs.length ≤ 4194304) := hide (fun i hi h1 => by
            by_cases e : i = k
            · subst e; rw [hy.out]; exact hlong
            · exact HP.out i hi (by omega))
          have hlI : ¬ (4194304 : Int) < (y.zs.length : Int) := by omega
          clear hre0 hy HP
          go_wp2_with fail
          go_roundw
          case rel => exact ⟨k + 1, by omega, by go_num, by trivial, HQ⟩
          case measure => simp [intOf]; omega
        · have hlI : (4194304 : Int) < (y.zs.length : Int) := by omega
          have HZ : Hid (te = 3) := hide (by
            rw [← hte.out, if_neg]
            intro q
            have := q _ (List.getElem_mem hlt)
            rw [hy.out] at this
            exact hlong this)
          clear hre0 hy HP
          go_wp2_with fail
          go_ret
          exact ⟨by rw [HZ.out]; rfl, hB1⟩
      · have k1 : ¬ (k : Int) < (rs.length : Int) := by omega
        have HZ : Hid (te = 0) := hide (by
          rw [← hte.out, if_pos]
          intro r hrm
          obtain ⟨i, hi, rfl⟩ := List.mem_iff_getElem.1 hrm
          exact HP.out i hi (by omega))
        clear HP
        go_wp2_with fail
        go_ret
        exact ⟨by rw [HZ.out]; rfl, hB1⟩
end Go.Proofs.Ytfkchnjbbbhmjaa
namespace Go.Proofs.Ytfkchnjbbbhmjaa.Ty
open Go.RowKit
open Tal
def Rc.val (x : Rc) : Value := .slice x.a x.zs.length x.cap
theorem RowAt_gbo {w w' : World} {a : Option Addr} {zs : List Int} {row : Option Nat} (h : RowAt w a zs) (hg : w.grownBy w' row) (hne : ∀ x, a = some x → row ≠ some x.block) : RowAt w' a zs := by
  refine ⟨h.1, h.2.1, ?_⟩
  rcases h.2.2 with q | ⟨b, off, rfl, hb, hr⟩
  · exact .inl q
  · exact .inr ⟨b, off, rfl, Nat.lt_of_lt_of_le hb hg.size, fun j v hv => hg.cell (hr j v hv) (fun q => hne _ rfl q.symm)⟩
structure Out (B : Nat) (w : World) (vk vr : Value) (ks : List Int) (rs xs : List Rc) : Prop where
  k : w.ownsRow B 5 1 vk ks.length (v8 ks)
  kb : ∀ z ∈ ks, 0 ≤ z ∧ z < 256
  r : w.ownsRow B 29 1 vr rs.length (rs.map Rc.val)
  ap : ∀ g, vk.ownBlock = some g → vr.ownBlock ≠ some g
  rows : ∀ x ∈ xs, RowAt w x.a x.zs
  off : ∀ x ∈ xs, ∀ ad, x.a = some ad → ad.block < w.heap.size ∧ vk.ownBlock ≠ some ad.block ∧ vr.ownBlock ≠ some ad.block
theorem Out.nil (B : Nat) (w : World) : Out B w (.slice none 0 0) (.slice none 0 0) [] [] [] :=
  ⟨World.ownsRow_nil _ _ _ _, by simp, World.ownsRow_nil _ _ _ _, by simp [Value.ownBlock], by simp, by simp⟩
theorem own_or (o : Option Nat) : o = none ∨ o ≠ none := by cases o <;> simp
theorem Out.below {B : Nat} {w w' : World} {vk vr : Value} {ks : List Int} {rs xs : List Rc} (h : Out B w vk vr ks rs xs) (hb : Below w.heap.size w w') : Out B w' vk vr ks rs xs :=
  ⟨h.k.kept (gb_below hb none) (own_or _), h.kb, h.r.kept (gb_below hb none) (own_or _), h.ap, fun x hx => (h.rows x hx).below hb,
    fun x hx ad q => ⟨Nat.lt_of_lt_of_le (h.off x hx ad q).1 hb.size, (h.off x hx ad q).2⟩⟩
/-- a record in a block of its own -/
theorem Out.more {B : Nat} {w : World} {vk vr : Value} {ks : List Int} {rs xs : List Rc} (h : Out B w vk vr ks rs xs) (x : Rc) (hx : RowAt w x.a x.zs) (ho : ∀ ad, x.a = some ad → ad.block < w.heap.size ∧ vk.ownBlock ≠ some ad.block ∧ vr.ownBlock ≠ some ad.block) : Out B w vk vr ks rs (xs ++ [x]) :=
  ⟨h.k, h.kb, h.r, h.ap, fun y hy => by
    rcases List.mem_append.1 hy with q | q
    · exact h.rows y q
    · rw [List.mem_singleton.1 q]; exact hx, fun y hy => by
    rcases List.mem_append.1 hy with q | q
    · exact h.off y q
    · rw [List.mem_singleton.1 q]; exact ho⟩
theorem Out.addK {B : Nat} {w w' : World} {vk vr vk' : Value} {ks : List Int} {rs xs : List Rc} {z : Int} (h : Out B w vk vr ks rs xs) (hz : 0 ≤ z ∧ z < 256) (hown : w'.ownsRow B 5 1 vk' (ks.length + 1) (v8 ks ++ [.int .u8 z])) (hg : w.grownBy w' vk.ownBlock)
    (hap : ∀ g, vk'.ownBlock = some g → vk.ownBlock = some g ∨ g = w.heap.size) : Out B w' vk' vr (ks ++ [z]) rs xs := by
  refine ⟨by simpa [v8] using hown, ?_, h.r.kept hg ?_, ?_, fun x hx => RowAt_gbo (h.rows x hx) hg (fun ad q => (h.off x hx ad q).2.1), fun x hx ad q => ?_⟩
  · intro y hy
    rcases List.mem_append.1 hy with q | q
    · exact h.kb y q
    · rw [List.mem_singleton.1 q]; exact hz
  · cases hk : vk.ownBlock with
    | none => exact own_or _
    | some g => exact .inr (h.ap g hk)
  · intro g hg1 hg2
    rcases hap g hg1 with q | q
    · exact h.ap g q hg2
    · have := (h.r.lt g hg2).2; omega
  · obtain ⟨o1, o2, o3⟩ := h.off x hx ad q
    refine ⟨Nat.lt_of_lt_of_le o1 hg.size, fun q1 => ?_, o3⟩
    rcases hap _ q1 with q2 | q2
    · exact o2 q2
    · omega
theorem Out.addR {B : Nat} {w w' : World} {vk vr vr' : Value} {ks : List Int} {rs xs : List Rc} {y : Rc} (h : Out B w vk vr ks rs xs) (hown : w'.ownsRow B 29 1 vr' (rs.length + 1) (rs.map Rc.val ++ [Rc.val y])) (hg : w.grownBy w' vr.ownBlock)
    (hap : ∀ g, vr'.ownBlock = some g → vr.ownBlock = some g ∨ g = w.heap.size) : Out B w' vk vr' ks (rs ++ [y]) xs := by
  refine ⟨h.k.kept hg ?_, h.kb, by simpa using hown, ?_, fun x hx => RowAt_gbo (h.rows x hx) hg (fun ad q => (h.off x hx ad q).2.2), fun x hx ad q => ?_⟩
  · cases hk : vk.ownBlock with
    | none => exact .inl rfl
    | some g => exact .inr (fun q => h.ap g hk q.symm)
  · intro g hg1 hg2
    rcases hap g hg2 with q | q
    · exact h.ap g hg1 q
    · have := (h.k.lt g hg1).2; omega
  · obtain ⟨o1, o2, o3⟩ := h.off x hx ad q
    refine ⟨Nat.lt_of_lt_of_le o1 hg.size, o2, fun q1 => ?_⟩
    rcases hap _ q1 with q2 | q2
    · exact o3 q2
    · omega
theorem infoS : (Try.prog.info? 29).map (fun i => (i.zero, i.size, i.bytes)) = some (some (.slice none 0 0), 1, 24) := by kernel_rfl
theorem s1_src (w : World) (x : Rc) : Src Try.prog 1 62 (.slice (some ⟨w.heap.size, 0, none⟩) 1 1) 1 [Rc.val x] (w.alloc (.cells #[Rc.val x] 29)) := by
  refine Src.ofSlice _ Try.underlying62 _ 1 1 _ (by simp) (fun j u hu => ?_) (fun u hu => by simp at hu; subst hu; rfl)
  rw [Addr.add_mid]
  exact range_new w #[Rc.val x] 29 j u (by simpa using hu)
def lenOf : Value → Nat
  | .slice _ n _ => n
  | _ => 0
end Go.Proofs.Ytfkchnjbbbhmjaa.Ty
namespace Go.Proofs.Ytfkchnjbbbhmjaa.Ty
open Go.RowKit
open Tal
/-- what Frames tells: kinds and records -/
def FramesIs (B : Nat) (fs : List Fr) (e : Ending) (w : World) : Prop :=
  ∃ vk vr rs, e = .returned (.tuple #[vk, vr]) ∧ Out B w vk vr (fs.map Fr.k) rs rs ∧ rs.map Rc.zs = fs.map Fr.zs
theorem firstW_kind {bs : List Int} {f : Fr} (h : firstW bs = some f) : f.k = 68 ∨ f.k = 71 := by
  unfold firstW at h
  split at h
  · cases h
  · split at h
    · cases h
    · rename_i he
      split at h
      · cases h
      · split at h
        · cases h
        · simp only [Option.some.injEq] at h
          rw [← h]
          simp only
          generalize bs.getD 3 0 = k at *
          by_cases q : k = 68
          · exact .inl q
          · by_cases q' : k = 71
            · exact .inr q'
            · exact absurd (.inr ⟨q, q'⟩) he
set_option maxRecDepth 100000 in
set_option maxHeartbeats 4000000 in
theorem xframes_any (a : Option Addr) (cap : Nat) (bs : List Int) (w : World) (h : RowAt w a bs) (hc : bs.length ≤ cap) (hm : cap ≤ maxLen) (hl : bs.length ≤ 100000000) :
    Calls Try.prog 29 #[.slice a bs.length cap] w fun e w' => FramesIs w.heap.size (framesW bs) e w' ∧ Below w.heap.size w w' := by
  obtain ⟨i0, hi, hz0, hz1, hz2⟩ := info_parts info8
  obtain ⟨i1, hj, hj0, hj1, hj2⟩ := info_parts infoS
  go_enter Try.func29, Try.ntmps29
  go_wp2_with fail
  go_loopw [0, 4, 5] (fun b vk vr wr => ∃ (a : Option Addr) (cap : Nat) (cur : List Int) (fs : List Fr) (rs : List Rc), b = .slice a cur.length cap ∧ RowAt w a cur ∧ cur.length ≤ cap ∧ cap ≤ maxLen ∧ fs.length + cur.length ≤ 100000000 ∧ Out w.heap.size wr vk vr (fs.map Fr.k) rs rs ∧ rs.map Rc.zs = fs.map Fr.zs ∧ Below w.heap.size w wr ∧ Hid (framesW bs = fs ++ framesW cur)) (fun b _ _ _ => lenOf b)
  case atStart => exact ⟨a, cap, bs, [], [], rfl, h, hc, hm, by simpa using hl, Out.nil _ _, rfl, Below.refl _ _, hide rfl⟩
  case round =>
    clear h hc hm hl
    obtain ⟨a, cap, cur, fs, rs, rfl, hrow, hc, hm, hn, hO, hzs, hB, HF⟩ := hrel
    have cf := xfirst_any a cap cur wr (hrow.below hB) hc hm (by omega)
    have hst := framesW_step hrow.2.1
    unfold maxLen at hm
    cases hf : firstW cur with
    | none =>
      rw [hf] at cf hst
      simp only at hst
      have HF' : Hid (framesW bs = fs) := hide (by rw [HF.out, hst, List.append_nil])
      clear HF hst hf
      go_wp2_with fail
      refine cf.mono ?_
      rintro e1 w1 ⟨he, hB1⟩
      obtain rfl := he
      clear cf
      go_wp2
      go_ret2
      rw [HF'.out]
      exact ⟨⟨_, _, rs, rfl, hO.below hB1, hzs⟩, hB.trans (hB1.mono hB.size)⟩
    | some f =>
      obtain ⟨l1, l2⟩ := firstW_len hrow.2.1 hf
      have hkk := firstW_kind hf
      rw [hf] at cf
      have hst' : Hid (framesW cur = f :: framesW (cur.drop f.n)) := hide (by rw [hst, hf])
      clear hst
      obtain ⟨b, off, rfl, -, -, -, -⟩ := hrow.get 0 (by omega)
      obtain ⟨fk, fz, fn⟩ := f
      simp only at l1 l2 hkk
      have n0 : ((fn : Int) == 0) = false := beq_eq_false_iff_ne.2 (by omega)
      have hrl : rs.length = fs.length := by simpa using congrArg List.length hzs
      clear hf
      by_cases hcn : cap = fn
      · subst cap
        go_wp2_with fail
        refine cf.mono ?_
        rintro e1 w1 ⟨⟨g, rc, rfl, hrg, hg0, hg1, hg2, hg3⟩, hB1⟩
        simp only at hrg hg2 l1 l2 hkk n0
        have hO1 := (hO.below hB1).more ⟨some ⟨g, 0, none⟩, rc, fz⟩ hrg (fun ad q => by
          cases q
          exact ⟨hg1, fun q => by have := (hO.k.lt _ q).2; simp only at this; omega, fun q => by have := (hO.r.lt _ q).2; simp only at this; omega⟩)
        have hB2 : Below w.heap.size w w1 := hB.trans (hB1.mono hB.size)
        clear cf hO hB hB1 hrg hg0 hg1 hg2 hg3
        go_wp2_with (at_builtin; refine wpList_append_own_src2 _ rfl _ _ 29 29 rfl w.heap.size 5 i0 (.int .u8 0) 1 1 Try.underlying29 hi hz0 hz1 hz2 rfl _ _ _ rfl (hO1.k.alloc _) _ 1 _ rfl (b1_src _ _) ?c1 ?c2 ?c3 ?_)
        case c1 => unfold maxLen; simp only [List.length_map]; omega
        case c2 => simp only [List.length_map]; omega
        case c3 => have := hB2.size; simp; omega
        intro v2 w2 hown2 hgr2 hap2
        have hbA : Below w1.heap.size w1 (w1.alloc (.cells #[.int .u8 fk] 5)) := (Below.refl _ _).alloc (Nat.le_refl _) _
        have hO2 := (hO1.below hbA).addK (z := fk) ⟨by omega, by omega⟩ (by rw [List.length_map]; exact hown2) hgr2 (fun g q => by simpa using hap2 g q)
        have hB3 : Below w.heap.size w w2 := (hB2.trans (hbA.mono hB2.size)).grown hgr2 (by have := hB2.size; simp; omega) (fun k hk => (hO1.k.lt k hk).1)
        clear hown2 hgr2 hap2 hbA hB2 hO1
        go_wp2_with (at_builtin; refine wpList_append_own_src2 _ rfl _ _ 62 62 rfl w.heap.size 29 i1 (.slice none 0 0) 1 24 Try.underlying62 hj hj0 hj1 hj2 rfl _ _ _ rfl (hO2.r.alloc _) _ 1 _ rfl (s1_src w2 ⟨some ⟨g, 0, none⟩, rc, fz⟩) ?c1 ?c2 ?c3 ?_)
        case c1 => unfold maxLen; omega
        case c2 => omega
        case c3 => have := hB3.size; simp; omega
        intro v3 w3 hown3 hgr3 hap3
        have hbB : Below w2.heap.size w2 (w2.alloc (.cells #[Rc.val ⟨some ⟨g, 0, none⟩, rc, fz⟩] 29)) := (Below.refl _ _).alloc (Nat.le_refl _) _
        have hO3 := (hO2.below hbB).addR (y := ⟨some ⟨g, 0, none⟩, rc, fz⟩) (by rw [hrl]; exact hown3) hgr3 (fun g q => by simpa using hap3 g q)
        have hB4 : Below w.heap.size w w3 := (hB3.trans (hbB.mono hB3.size)).grown hgr3 (by have := hB3.size; simp; omega) (fun k hk => (hO2.r.lt k hk).1)
        clear hown3 hgr3 hap3 hbB hB3 hO2
        go_wp2
        go_roundw
        case rel =>
          refine ⟨cutA (some ⟨b, off, none⟩) fn fn, fn - fn, cur.drop fn, fs ++ [⟨fk, fz, fn⟩], rs ++ [⟨some ⟨g, 0, none⟩, rc, fz⟩], ?_, hrow.drop fn fn l2 hc, by rw [List.length_drop]; omega, by unfold maxLen; omega, by rw [List.length_append, List.length_drop]; simp only [List.length_cons, List.length_nil]; omega, by simpa using hO3, by simp [hzs], hB4, hide (by rw [HF.out, hst'.out]; simp)⟩
          rw [List.length_drop]
          unfold cutA
          rw [if_pos rfl]
          simp
          omega
        case measure => simp only [lenOf]; omega
      · go_wp2_with fail
        refine cf.mono ?_
        rintro e1 w1 ⟨⟨g, rc, rfl, hrg, hg0, hg1, hg2, hg3⟩, hB1⟩
        simp only at hrg hg2 l1 l2 hkk n0
        have hO1 := (hO.below hB1).more ⟨some ⟨g, 0, none⟩, rc, fz⟩ hrg (fun ad q => by
          cases q
          exact ⟨hg1, fun q => by have := (hO.k.lt _ q).2; simp only at this; omega, fun q => by have := (hO.r.lt _ q).2; simp only at this; omega⟩)
        have hB2 : Below w.heap.size w w1 := hB.trans (hB1.mono hB.size)
        clear cf hO hB hB1 hrg hg0 hg1 hg2 hg3
        go_wp2_with (at_builtin; refine wpList_append_own_src2 _ rfl _ _ 29 29 rfl w.heap.size 5 i0 (.int .u8 0) 1 1 Try.underlying29 hi hz0 hz1 hz2 rfl _ _ _ rfl (hO1.k.alloc _) _ 1 _ rfl (b1_src _ _) ?c1 ?c2 ?c3 ?_)
        case c1 => unfold maxLen; simp only [List.length_map]; omega
        case c2 => simp only [List.length_map]; omega
        case c3 => have := hB2.size; simp; omega
        intro v2 w2 hown2 hgr2 hap2
        have hbA : Below w1.heap.size w1 (w1.alloc (.cells #[.int .u8 fk] 5)) := (Below.refl _ _).alloc (Nat.le_refl _) _
        have hO2 := (hO1.below hbA).addK (z := fk) ⟨by omega, by omega⟩ (by rw [List.length_map]; exact hown2) hgr2 (fun g q => by simpa using hap2 g q)
        have hB3 : Below w.heap.size w w2 := (hB2.trans (hbA.mono hB2.size)).grown hgr2 (by have := hB2.size; simp; omega) (fun k hk => (hO1.k.lt k hk).1)
        clear hown2 hgr2 hap2 hbA hB2 hO1
        go_wp2_with (at_builtin; refine wpList_append_own_src2 _ rfl _ _ 62 62 rfl w.heap.size 29 i1 (.slice none 0 0) 1 24 Try.underlying62 hj hj0 hj1 hj2 rfl _ _ _ rfl (hO2.r.alloc _) _ 1 _ rfl (s1_src w2 ⟨some ⟨g, 0, none⟩, rc, fz⟩) ?c1 ?c2 ?c3 ?_)
        case c1 => unfold maxLen; omega
        case c2 => omega
        case c3 => have := hB3.size; simp; omega
        intro v3 w3 hown3 hgr3 hap3
        have hbB : Below w2.heap.size w2 (w2.alloc (.cells #[Rc.val ⟨some ⟨g, 0, none⟩, rc, fz⟩] 29)) := (Below.refl _ _).alloc (Nat.le_refl _) _
        have hO3 := (hO2.below hbB).addR (y := ⟨some ⟨g, 0, none⟩, rc, fz⟩) (by rw [hrl]; exact hown3) hgr3 (fun g q => by simpa using hap3 g q)
        have hB4 : Below w.heap.size w w3 := (hB3.trans (hbB.mono hB3.size)).grown hgr3 (by have := hB3.size; simp; omega) (fun k hk => (hO2.r.lt k hk).1)
        clear hown3 hgr3 hap3 hbB hB3 hO2
        go_wp2
        go_roundw
        case rel =>
          refine ⟨cutA (some ⟨b, off, none⟩) cap fn, cap - fn, cur.drop fn, fs ++ [⟨fk, fz, fn⟩], rs ++ [⟨some ⟨g, 0, none⟩, rc, fz⟩], ?_, hrow.drop fn cap l2 hc, by rw [List.length_drop]; omega, by unfold maxLen; omega, by rw [List.length_append, List.length_drop]; simp only [List.length_cons, List.length_nil]; omega, by simpa using hO3, by simp [hzs], hB4, hide (by rw [HF.out, hst'.out]; simp)⟩
          rw [List.length_drop]
          unfold cutA
          rw [if_neg hcn, Option.map_some, Addr.add_mid]
        case measure => simp only [lenOf]; omega
end Go.Proofs.Ytfkchnjbbbhmjaa.Ty
namespace Go.Proofs.Ytfkchnjbbbhmjaa.Ty
open Go.RowKit
open Tal
set_option maxRecDepth 100000 in
set_option maxHeartbeats 2000000 in
theorem cfits_any (a : Option Addr) (cap : Nat) (zs : List Int) (s : Int) (w : World) (h : RowAt w a zs) :
    Calls Try.prog 84 #[.slice a zs.length cap, .int .i64 s] w fun e w' => e = .returned (.bool (crcN zs == s)) ∧ Below w.heap.size w w' := by
  have c := csum_any a cap zs w h
  clear h
  generalize crcN zs = n at *
  go_enter Try.func84, Try.ntmps84
  go_wp2_with fail
  refine c.mono ?_
  rintro e1 w1 ⟨rfl, hb⟩
  clear c
  go_wp2
  go_ret
  exact ⟨rfl, hb⟩
end Go.Proofs.Ytfkchnjbbbhmjaa.Ty
namespace Go.Proofs.Ytfkchnjbbbhmjaa.Ty
open Go.RowKit
open Tal
/-- records in memory -/
structure Recs (w : World) (a : Option Addr) (rs : List Rc) : Prop where
  le : rs.length ≤ 100000000
  at0 : rs = [] ∨ ∃ b off, a = some ⟨b, off, none⟩ ∧ b < w.heap.size ∧ w.rangeAt b off (rs.map Rc.val)
  rows : ∀ x ∈ rs, RowAt w x.a x.zs
theorem Recs.get {w : World} {a : Option Addr} {rs : List Rc} (h : Recs w a rs) (k : Nat) (hk : k < rs.length) : ∃ b off, a = some ⟨b, off, none⟩ ∧ b < w.heap.size ∧ w.cell? ⟨b, off + k, none⟩ = some (.slice rs[k].a rs[k].zs.length rs[k].cap) ∧ RowAt w rs[k].a rs[k].zs := by
  rcases h.at0 with q | ⟨b, off, rfl, hb, hr⟩
  · rw [q] at hk; simp at hk
  · refine ⟨b, off, rfl, hb, hr k _ ?_, h.rows _ (List.getElem_mem hk)⟩
    rw [List.getElem?_map, List.getElem?_eq_getElem hk]
    rfl
theorem Out.recs {B : Nat} {w : World} {vk vr : Value} {ks : List Int} {rs : List Rc} (h : Out B w vk vr ks rs rs) (hl : rs.length ≤ 100000000) : ∃ a cap, vr = .slice a rs.length cap ∧ Recs w a rs := by
  rcases own_range h.r with ⟨q, h0, _⟩ | ⟨g, cap, q, hb, hg, hn, hcm, hr⟩
  · exact ⟨none, 0, by rw [q, h0], hl, .inl (List.eq_nil_of_length_eq_zero h0), h.rows⟩
  · exact ⟨_, cap, q, hl, .inr ⟨g, 0, rfl, hg, hr⟩, h.rows⟩
set_option maxRecDepth 100000 in
set_option maxHeartbeats 4000000 in
theorem xsame_any (a1 a2 : Option Addr) (c1 c2 : Nat) (rs ss : List Rc) (w : World) (h1 : Recs w a1 rs) (h2 : Recs w a2 ss) (hE : rs.map Rc.zs = ss.map Rc.zs) :
    Calls Try.prog 32 #[.slice a1 rs.length c1, .slice a2 ss.length c2] w fun e w' => e = .returned (.bool true) ∧ Below w.heap.size w w' := by
  have hlen : ss.length = rs.length := by simpa using (congrArg List.length hE).symm
  have hle := h1.le
  rw [hlen]
  go_enter Try.func32, Try.ntmps32
  go_wp2_with fail
  go_loopw [5] (fun iv wr => ∃ k : Nat, k ≤ rs.length ∧ iv = .int .i64 (k : Int) ∧ Below w.heap.size w wr) (fun iv _ => rs.length - (intOf iv).toNat)
  case atStart => exact ⟨0, by omega, rfl, Below.refl _ _⟩
  case round =>
    obtain ⟨k, hk, rfl, hB⟩ := hrel
    by_cases hlt : k < rs.length
    · obtain ⟨b1, o1, rfl, hb1, hc1, hr1⟩ := h1.get k hlt
      obtain ⟨b2, o2, rfl, hb2, hc2, hr2⟩ := h2.get k (by omega)
      have hz : rs[k].zs = (ss[k]'(by omega)).zs := by
        have q := congrArg (·[k]?) hE
        simp only [List.getElem?_map] at q
        rw [List.getElem?_eq_getElem hlt, List.getElem?_eq_getElem (by omega)] at q
        simpa using q
      generalize rs[k] = x at *
      generalize (ss[k]'(by omega)) = y at *
      obtain ⟨xa, xc, xz⟩ := x
      obtain ⟨ya, yc, yz⟩ := y
      simp only at hz hc1 hc2 hr1 hr2
      subst hz
      clear h1 h2 hE hlen
      have hltI : (k : Int) < (rs.length : Int) := by omega
      go_wp2_with fail
      obtain ⟨w8, hw8⟩ : ∃ w8, wr.drew = w8 := ⟨_, rfl⟩
      have hB8 : Below w.heap.size w w8 := by rw [← hw8]; exact hB.drew
      have cA : ∀ w', Below w8.heap.size w8 w' → w'.cell? ⟨b1, o1 + k, none⟩ = some (.slice xa xz.length xc) := fun w' hw => (cell_block ((hB8.trans (hw.mono hB8.size)).block b1 hb1)).1.trans hc1
      have cB : ∀ w', Below w8.heap.size w8 w' → w'.cell? ⟨b2, o2 + k, none⟩ = some (.slice ya xz.length yc) := fun w' hw => (cell_block ((hB8.trans (hw.mono hB8.size)).block b2 hb2)).1.trans hc2
      have kA : ∀ w', Below w8.heap.size w8 w' → (convert 29 9 (.slice xa xz.length xc)).run Try.prog w' = .ok (.string (strOf xz)) w' := fun w' hw => _root_.Go.Proofs.Ytfkchnjbbbhmjaa.row_str (cap := xc) (hr1.below (hB8.trans (hw.mono hB8.size)))
      have kB : ∀ w', Below w8.heap.size w8 w' → (convert 29 9 (.slice ya xz.length yc)).run Try.prog w' = .ok (.string (strOf xz)) w' := fun w' hw => _root_.Go.Proofs.Ytfkchnjbbbhmjaa.row_str (cap := yc) (hr2.below (hB8.trans (hw.mono hB8.size)))
      refine hs_begin (S := (Below w8.heap.size w8)) 11 rfl (by kernel_rfl) ?_
      rw [hw8]
      clear hw8 hc1 hc2 hr1 hr2
      have hS : (Below w8.heap.size w8) w8 := Below.refl _ _
      refine hs_take (i := 0) (d := some 17) (v := ?_) rfl (by kernel_rfl) (by kernel_rfl) (by kernel_rfl) (by rfl) ?_ hS rfl ?_
      rotate_left
      · intro w' hw
        go_simp
        try with_reducible rfl
      simp only [Act.put, List.setIfInBounds_toArray, List.set_cons_zero, List.set_cons_succ]
      refine hs_take (i := 1) (d := some 18) (v := ?_) rfl (by kernel_rfl) (by kernel_rfl) (by kernel_rfl) (by rfl) ?_ hS rfl ?_
      rotate_left
      · intro w' hw
        go_simp
        try with_reducible rfl
      simp only [Act.put, List.setIfInBounds_toArray, List.set_cons_zero, List.set_cons_succ]
      refine hs_take (i := 2) (d := some 19) (v := ?_) rfl (by kernel_rfl) (by kernel_rfl) (by kernel_rfl) (by rfl) ?_ hS rfl ?_
      rotate_left
      · intro w' hw
        go_simp
        try with_reducible rfl
      simp only [Act.put, List.setIfInBounds_toArray, List.set_cons_zero, List.set_cons_succ]
      refine hs_take (i := 3) (d := some 20) (v := ?_) rfl (by kernel_rfl) (by kernel_rfl) (by kernel_rfl) (by rfl) ?_ hS rfl ?_
      rotate_left
      · intro w' hw
        have := cA w' hw
        go_simp
        try with_reducible rfl
      simp only [Act.put, List.setIfInBounds_toArray, List.set_cons_zero, List.set_cons_succ]
      refine hs_take (i := 4) (d := some 21) (v := .string (strOf xz)) rfl (by kernel_rfl) (by kernel_rfl) (by kernel_rfl) (by rfl) (fun w' hw => by have := kA w' hw; go_simp) hS rfl ?_
      simp only [Act.put, List.setIfInBounds_toArray, List.set_cons_zero, List.set_cons_succ]
      refine hs_take (i := 5) (d := some 22) (v := ?_) rfl (by kernel_rfl) (by kernel_rfl) (by kernel_rfl) (by rfl) ?_ hS rfl ?_
      rotate_left
      · intro w' hw
        go_simp
        try with_reducible rfl
      simp only [Act.put, List.setIfInBounds_toArray, List.set_cons_zero, List.set_cons_succ]
      refine hs_take (i := 6) (d := some 23) (v := ?_) rfl (by kernel_rfl) (by kernel_rfl) (by kernel_rfl) (by rfl) ?_ hS rfl ?_
      rotate_left
      · intro w' hw
        go_simp
        try with_reducible rfl
      simp only [Act.put, List.setIfInBounds_toArray, List.set_cons_zero, List.set_cons_succ]
      refine hs_take (i := 7) (d := some 24) (v := ?_) rfl (by kernel_rfl) (by kernel_rfl) (by kernel_rfl) (by rfl) ?_ hS rfl ?_
      rotate_left
      · intro w' hw
        go_simp
        try with_reducible rfl
      simp only [Act.put, List.setIfInBounds_toArray, List.set_cons_zero, List.set_cons_succ]
      refine hs_take (i := 8) (d := some 25) (v := ?_) rfl (by kernel_rfl) (by kernel_rfl) (by kernel_rfl) (by rfl) ?_ hS rfl ?_
      rotate_left
      · intro w' hw
        have := cB w' hw
        go_simp
        try with_reducible rfl
      simp only [Act.put, List.setIfInBounds_toArray, List.set_cons_zero, List.set_cons_succ]
      refine hs_take (i := 9) (d := some 26) (v := .string (strOf xz)) rfl (by kernel_rfl) (by kernel_rfl) (by kernel_rfl) (by rfl) (fun w' hw => by have := kB w' hw; go_simp) hS rfl ?_
      simp only [Act.put, List.setIfInBounds_toArray, List.set_cons_zero, List.set_cons_succ]
      refine hs_take (i := 10) (d := some 27) (v := .bool false) rfl (by kernel_rfl) (by kernel_rfl) (by kernel_rfl) (by rfl) (fun w' hw => by go_simp) hS rfl ?_
      simp only [Act.put, List.setIfInBounds_toArray, List.set_cons_zero, List.set_cons_succ]
      refine hs_done (by kernel_rfl) ?_
      clear cA cB kA kB hS
      go_wp2
      go_roundw
      case rel => exact ⟨k + 1, by omega, by go_num, hB8⟩
      case measure => simp [intOf]; omega
    · obtain rfl : k = rs.length := by omega
      go_wp2
      go_ret
      exact ⟨rfl, hB⟩
end Go.Proofs.Ytfkchnjbbbhmjaa.Ty
namespace Go.Proofs.Ytfkchnjbbbhmjaa.Ty
open Go.RowKit
open Tal
/-- the frame of whatever kind with which bytes begin -/
def fitW (bs : List Int) : Option Fr :=
  if bs.length < 4 then none else
  if (textS (bs.drop 4) 0 4194304).2.2 ≠ 0 then none else
  if crcN ((bs.drop 3).take (bs.length - (textS (bs.drop 4) 0 4194304).2.1.length - 3)) ≠ sumN (bs.take 3) then none else
  some ⟨bs.getD 3 0, (textS (bs.drop 4) 0 4194304).1, bs.length - (textS (bs.drop 4) 0 4194304).2.1.length⟩
/-- a record, or a turn -/
def Fr.good (f : Fr) : Bool := decide (f.k = 68) || (decide (f.k = 71) && decide (turnN f.zs ≠ 0))
theorem firstW_fit {bs : List Int} (hz : ∀ z ∈ bs, 0 ≤ z ∧ z < 256) : firstW bs = match fitW bs with
    | none => none
    | some f => if f.good = true then some f else none := by
  unfold firstW fitW
  by_cases h4 : bs.length < 4
  · rw [if_pos h4, if_pos h4]
  · rw [if_neg h4, if_neg h4]
    obtain ⟨rec, rest, er, hT⟩ : ∃ rec rest er, textS (bs.drop 4) 0 4194304 = (rec, rest, er) := ⟨_, _, _, rfl⟩
    rw [hT]
    simp only
    by_cases he : er = 0
    · subst he
      obtain ⟨hf, -, -⟩ := fits_iff hz (by omega) hT
      rw [if_neg (c := (0 : Int) ≠ 0) (by simp)]
      generalize bs.getD 3 0 = k at *
      by_cases hc : crcN ((bs.drop 3).take (bs.length - rest.length - 3)) = sumN (bs.take 3)
      · rw [if_neg (c := crcN _ ≠ _) (by simpa using hc)]
        simp only
        have hfr := hf.2 hc
        rw [if_neg (c := frameL k (strOf rec) ≠ _) (by simpa using hfr)]
        by_cases k1 : k = 68
        · subst k1
          simp [Fr.good]
        · by_cases k2 : k = 71
          · subst k2
            by_cases ht : turnN rec = 0
            · simp [Fr.good, ht]
            · simp [Fr.good, ht]
          · simp [Fr.good, k1, k2]
      · rw [if_pos (c := crcN _ ≠ _) hc]
        have hfr : frameL k (strOf rec) ≠ bs.take (bs.length - rest.length) := fun q => hc (hf.1 q)
        simp only
        split
        · rfl
        · first | rfl | rw [if_pos hfr]
    · rw [if_pos (c := er ≠ 0 ∨ _) (.inl he), if_pos (c := er ≠ 0) he]
theorem fitW_len {bs : List Int} {f : Fr} (hz : ∀ z ∈ bs, 0 ≤ z ∧ z < 256) (h : fitW bs = some f) : 4 ≤ f.n ∧ f.n ≤ bs.length := by
  unfold fitW at h
  split at h
  · cases h
  · rename_i h4
    split at h
    · cases h
    · rename_i he
      split at h
      · cases h
      · obtain ⟨rec, rest, er, hT⟩ : ∃ rec rest er, textS (bs.drop 4) 0 4194304 = (rec, rest, er) := ⟨_, _, _, rfl⟩
        rw [hT] at h he
        simp only [Option.some.injEq] at h
        have her : er = 0 := by
          by_cases q : er = 0
          · exact q
          · exact absurd q he
        subst her
        have := (fits_iff hz (by omega) hT).2.1
        subst h
        simp only
        omega
theorem fitW_kind {bs : List Int} {f : Fr} (hz : ∀ z ∈ bs, 0 ≤ z ∧ z < 256) (h : fitW bs = some f) : 0 ≤ f.k ∧ f.k < 256 ∧ (∀ z ∈ f.zs, 0 ≤ z ∧ z < 256) ∧ f.zs.length ≤ bs.length := by
  unfold fitW at h
  split at h
  · cases h
  · rename_i h4
    split at h
    · cases h
    · split at h
      · cases h
      · obtain ⟨⟨pc, pn, hp1⟩, -⟩ := textS_part (bs.drop 4) 0 4194304
        simp only [Option.some.injEq] at h
        subst h
        have hk : bs.getD 3 0 ∈ bs := by
          rw [List.getD_eq_getElem?_getD, List.getElem?_eq_getElem (show 3 < bs.length by omega)]
          exact List.getElem_mem _
        refine ⟨(hz _ hk).1, (hz _ hk).2, fun z q => ?_, ?_⟩
        · simp only [hp1] at q
          exact hz z (List.mem_of_mem_drop (List.mem_of_mem_drop (List.mem_of_mem_take q)))
        · simp only [hp1, List.length_take, List.length_drop]
          omega
def fitsN : Nat → List Int → List Fr
  | 0, _ => []
  | t + 1, bs => match fitW bs with
    | none => []
    | some f => f :: fitsN t (bs.drop f.n)
/-- the frames of whatever kind, one behind the other -/
def fitsW (bs : List Int) : List Fr := fitsN bs.length bs
theorem fitsN_more {bs : List Int} (hz : ∀ z ∈ bs, 0 ≤ z ∧ z < 256) : ∀ t, bs.length ≤ t → fitsN t bs = fitsN bs.length bs := by
  intro t
  induction t using Nat.strongRecOn generalizing bs with
  | _ t ih =>
    intro ht
    match t, ht with
    | 0, ht =>
      have : bs.length = 0 := by omega
      rw [this]
    | t + 1, ht =>
      cases hf : fitW bs with
      | none =>
        have : bs.length = 0 ∨ ∃ u, bs.length = u + 1 := by cases bs.length <;> simp
        rcases this with q | ⟨u, q⟩
        · rw [q]; simp only [fitsN, hf]
        · rw [q]; simp only [fitsN, hf]
      | some f =>
        obtain ⟨l1, l2⟩ := fitW_len hz hf
        obtain ⟨u, q⟩ : ∃ u, bs.length = u + 1 := ⟨bs.length - 1, by omega⟩
        have hz' : ∀ z ∈ bs.drop f.n, 0 ≤ z ∧ z < 256 := fun z hh => hz z (List.mem_of_mem_drop hh)
        have hd : (bs.drop f.n).length ≤ u := by rw [List.length_drop]; omega
        rw [q]
        simp only [fitsN, hf]
        rw [ih t (by omega) hz' (by omega), ih u (by omega) hz' hd]
theorem fitsW_step {bs : List Int} (hz : ∀ z ∈ bs, 0 ≤ z ∧ z < 256) : fitsW bs = match fitW bs with
    | none => []
    | some f => f :: fitsW (bs.drop f.n) := by
  cases hf : fitW bs with
  | none =>
    unfold fitsW
    cases bs.length <;> simp only [fitsN, hf]
  | some f =>
    obtain ⟨l1, l2⟩ := fitW_len hz hf
    obtain ⟨u, q⟩ : ∃ u, bs.length = u + 1 := ⟨bs.length - 1, by omega⟩
    have hz' : ∀ z ∈ bs.drop f.n, 0 ≤ z ∧ z < 256 := fun z hh => hz z (List.mem_of_mem_drop hh)
    unfold fitsW
    rw [q]
    simp only [fitsN, hf]
    rw [fitsN_more hz' u (by rw [List.length_drop]; omega)]
theorem fitsW_len {bs : List Int} (hz : ∀ z ∈ bs, 0 ≤ z ∧ z < 256) : (fitsW bs).length ≤ bs.length := by
  generalize hn : bs.length = n
  induction n using Nat.strongRecOn generalizing bs with
  | _ n ih =>
    rw [fitsW_step hz]
    cases hf : fitW bs with
    | none => simp
    | some f =>
      obtain ⟨l1, l2⟩ := fitW_len hz hf
      have := ih (bs.length - f.n) (by omega) (bs := bs.drop f.n) (fun z hh => hz z (List.mem_of_mem_drop hh)) (by rw [List.length_drop])
      simp only [List.length_cons]
      omega
/-- an area's frames are those that fit, up to the first that is neither a record nor a turn -/
theorem framesW_fits {bs : List Int} (hz : ∀ z ∈ bs, 0 ≤ z ∧ z < 256) : framesW bs = (fitsW bs).takeWhile Fr.good := by
  generalize hn : bs.length = n
  induction n using Nat.strongRecOn generalizing bs with
  | _ n ih =>
    rw [fitsW_step hz, framesW_step hz, firstW_fit hz]
    cases hf : fitW bs with
    | none => simp
    | some f =>
      obtain ⟨l1, l2⟩ := fitW_len hz hf
      cases hg : f.good with
      | false => simp [hg]
      | true =>
        have hi := ih (bs.length - f.n) (by omega) (bs := bs.drop f.n) (fun z hh => hz z (List.mem_of_mem_drop hh)) (by rw [List.length_drop])
        simp [hg, hi]
end Go.Proofs.Ytfkchnjbbbhmjaa.Ty
namespace Go.Proofs.Ytfkchnjbbbhmjaa
open Go Go.RowKit
/-- what is the body's stays the body's; of the other cells none turns -/
structure KpO (own : World → Nat → Prop) (A B : World) : Prop where
  size : A.heap.size ≤ B.heap.size
  same : ∀ (b : Nat) (o : Obj), A.heap[b]? = some o → o.isCells = true → ¬ own A b → B.heap[b]? = some o
  new : ∀ b, own B b → own A b ∨ A.heap.size ≤ b
theorem KpO.trans {own : World → Nat → Prop} {A B C : World} (h : KpO own A B) (k : KpO own B C) : KpO own A C := by
  refine ⟨Nat.le_trans h.size k.size, fun b o hb ho hn => k.same b o (h.same b o hb ho hn) ho (fun q => ?_), fun b q => ?_⟩
  · rcases h.new b q with q | q
    · exact hn q
    · have := (Array.getElem?_eq_some_iff.1 hb).1; omega
  · rcases k.new b q with q | q
    · exact h.new b q
    · exact .inr (Nat.le_trans h.size q)
variable {F : Fence} {n : Nat} {P : Program}
/-- what an iterator promises -/
def SeqOwn {α : Type} (F : Fence) (n : Nat) (P : Program) (gf : Nat) (lb : Array Value) (encs : α → Array Value) (X : α → World → Prop) (blk : α → Nat → Prop) (own : World → Nat → Prop) (S Sp : List α → Prop) (N : Nat) (w0 : World) : Prop :=
  ∀ (l : Nat) (J Jx : List α → World → Prop) (W : World), Below w0.heap.size w0 W →
    (∀ pre A B row, J pre A → A.grownBy B row → (∀ r, row = some r → W.heap.size ≤ r ∧ ¬ own A r ∧ ∀ x ∈ pre, ¬ blk x r) → J pre B ∧ ∀ b, own B b → own A b) →
    (∀ pre A, J pre A → ∀ b, own A b → b < W.heap.size → ∀ o k z, A.cell? ⟨b, o, none⟩ ≠ some (.int k z)) →
    (∀ pre x A, J pre A → X x A → W.heap.size ≤ A.heap.size → pre.length < N → YieldAt F (n - 1) P l (encs x) A fun e A' =>
      (e = .returned (.bool true) ∧ J (pre ++ [x]) A' ∧ KpO own A A') ∨ (e = .returned (.bool false) ∧ Jx (pre ++ [x]) A')) →
    (∀ pre A, J pre A → ∀ b, own A b → b < A.heap.size) → J [] W →
    CallsIn F n P gf (#[.func (.yield l) #[] #[]] ++ lb) W fun e W' => (∃ v, e = .returned v) ∧ ((∃ xs, S xs ∧ J xs W') ∨ (∃ pre, Sp pre ∧ Jx pre W'))
/-- how a round may be left -/
def ownEnd {α : Type} (B : Nat) (own : World → Nat → Prop) (I : List α → World → Prop) (Ix : Code → List α → World → Prop) (xs : List α) (W : World) : Exit → Act → World → Prop
  | .normal, _, W' => KeepsFrom B W W' ∧ KpO own W W' ∧ I xs W'
  | .exit id, _, W' => KeepsFrom B W W' ∧ Ix (.exit id) xs W'
  | .ret, _, _ => False
  | .goto _, _, _ => False
  | .panic _, _, _ => False
  | .outgrown, _, _ => False
theorem range_own {α : Type} {g : Operand} {ps : Array Tmp} {assign body : Code} {Q : Exit → Act → World → Prop} {a : Act} {w : World}
    (hro : F.round = none) (h1 : 1 ≤ n) {gf : Nat} {lb : Array Value} (hg : a.eval g = .func (.func gf) #[] lb) (hFg : F.fn gf) (eg : ∀ args w, (callFunc gf args).run P w = .ok (.enter gf args) w)
    {encs : α → Array Value} {X : α → World → Prop} {blk : α → Nat → Prop} {own : World → Nat → Prop} {S Sp : List α → Prop} {N : Nat} (hseq : SeqOwn F (n - 1) P gf lb encs X blk own S Sp N w) (hps : ∀ x, (encs x).size = ps.size)
    (I : List α → World → Prop) (Ix : Code → List α → World → Prop)
    (hI : ∀ pre A B row, I pre A → A.grownBy B row → (∀ r, row = some r → w.heap.size ≤ r ∧ ¬ own A r ∧ ∀ x ∈ pre, ¬ blk x r) → I pre B ∧ ∀ b, own B b → own A b)
    (hIx : ∀ c pre A l o o', Ix c pre A → w.heap.size ≤ l → A.heap[l]? = some o → o.isCells = false → Ix c pre (A.putObj l o'))
    (hOC : ∀ pre A, I pre A → ∀ b, own A b → ∃ o : Obj, A.heap[b]? = some o ∧ o.isCells = true)
    (hBC : ∀ pre A, I pre A → ∀ x ∈ pre, ∀ b, blk x b → ∃ o : Obj, A.heap[b]? = some o ∧ o.isCells = true)
    (hOZ : ∀ pre A, I pre A → ∀ b, own A b → b < w.heap.size → ∀ o k z, A.cell? ⟨b, o, none⟩ ≠ some (.int k z))
    (hX : ∀ x A l o o', w.heap.size ≤ l → X x A → A.heap[l]? = some o → o.isCells = false → X x (A.putObj l o'))
    (h0 : I [] w) (a₁ : α → Act)
    (hassign : ∀ (l : Nat) (x : α) (W : World) (K : Act → World → Prop), K (a₁ x) W →
      assign.wpIn (F.inRound l) (n - 1 - 1) P (Exit.then K (fun _ _ _ => False)) { tmps := (ps.zip (encs x)).foldl (fun t (p, v) => t.setIfInBounds p v) a.tmps, defers := [] } W)
    (hbody : ∀ (l : Nat) (pre : List α) (x : α) (W : World), I pre W → X x W → w.heap.size ≤ W.heap.size → pre.length < N → body.wpIn (F.inRound l) (n - 1 - 1) P (ownEnd w.heap.size own I Ix (pre ++ [x]) W) (a₁ x) W)
    (hdone : ∀ (D : Nat) (xs : List α) (W : World), w.heap.size ≤ D → S xs → I xs W → W.heap[D]? = some (.deferred (some [])) → Q .normal { a with defers := { target := .collected D, args := #[] } :: a.defers } W)
    (hstop : ∀ (D : Nat) (c : Code) (pre : List α) (W : World), w.heap.size ≤ D → Sp pre → Ix c pre W → W.heap[D]? = some (.deferred (some [])) → c.wpIn F n P Q { a with defers := { target := .collected D, args := #[] } :: a.defers } W) :
    (Code.rangeFunc g ps assign body).wpIn F n P Q a w := by
  refine wpIn_rangeFunc ?_
  intro fn hfn
  rw [hro]
  obtain ⟨rec, hrec⟩ : ∃ rec : LoopState → Option Code → Loop, rec = fun st pe => { state := st, pending := pe, fn, tmps := a.tmps, params := ps, assign, body, defers := w.heap.size } := ⟨_, rfl⟩
  have hal : ∀ {pre : List α} {A : World} (o : Obj), I pre A → I pre (A.alloc o) ∧ ∀ b, own (A.alloc o) b → own A b := fun o h => hI _ _ _ none h (World.grownBy_alloc _ o none) (fun r e => by cases e)
  have hput : ∀ {pre : List α} {A : World} {l : Nat} {o : Obj} (o' : Obj), I pre A → w.heap.size ≤ l → A.heap[l]? = some o → o.isCells = false → I pre (A.putObj l o') ∧ ∀ b, own (A.putObj l o') b → own A b :=
    fun {pre A l o} o' h hl ho hc => hI _ _ _ (some l) h (grownBy_putObj' _ _ _) (fun r e => by
      cases e
      refine ⟨hl, fun q => ?_, fun x hx q => ?_⟩
      · obtain ⟨o2, h2, h3⟩ := hOC _ _ h _ q
        rw [ho] at h2
        cases h2
        rw [hc] at h3
        cases h3
      · obtain ⟨o2, h2, h3⟩ := hBC _ _ h x hx _ q
        rw [ho] at h2
        cases h2
        rw [hc] at h3
        cases h3)
  have hkp : ∀ {pre : List α} {A : World} {l : Nat} {o : Obj} (o' : Obj), I pre A → w.heap.size ≤ l → A.heap[l]? = some o → o.isCells = false → KpO own A (A.putObj l o') :=
    fun {pre A l o} o' h hl ho hc => by
      refine ⟨(grownBy_putObj' A l o').size, fun b o2 hb hcb _ => ?_, fun b q => .inl ((hput o' h hl ho hc).2 b q)⟩
      have hne : b ≠ l := fun e => by
        subst e
        rw [hb] at ho
        cases ho
        rw [hcb] at hc
        cases hc
      exact (World.putObj_heap_other hne).trans hb
  obtain ⟨W1, hW1⟩ : ∃ W1, (w.alloc (.deferred (some []))).alloc (.loop (rec .ready none)) = W1 := ⟨_, rfl⟩
  have hs1 : W1.heap.size = w.heap.size + 2 := by rw [← hW1]; simp
  have hL1 : W1.heap[w.heap.size + 1]? = some (.loop (rec .ready none)) := by
    rw [← hW1]; have := World.alloc_heap_new (w.alloc (.deferred (some []))) (.loop (rec .ready none)); rwa [World.size_alloc] at this
  have hK1 : W1.heap[w.heap.size]? = some (.deferred (some [])) := by
    rw [← hW1]; exact (Below.heap_alloc _ _ _ (by simp)).trans (World.alloc_heap_new w _)
  have hI1 : I [] W1 ∧ ∀ b, own W1 b → own w b := by
    rw [← hW1]
    have q1 := hal (.deferred (some [])) h0
    have q2 := hal (.loop (rec .ready none)) q1.1
    exact ⟨q2.1, fun b q => q1.2 b (q2.2 b q)⟩
  have hb1 : Below w.heap.size w W1 := by
    rw [← hW1]; exact ((Below.refl _ w).alloc (Nat.le_refl _) _).alloc (by simp) _
  refine ⟨w.heap.size + 1, [{ target := .collected w.heap.size, args := #[] }], W1, { target := .fn (.func gf) lb, args := #[.func (.yield (w.heap.size + 1)) #[] #[]] }, W1, gf,
    #[.func (.yield (w.heap.size + 1)) #[] #[]] ++ lb, W1, ?_, ?_, ?_, ?_, fun _ => h1, ?_⟩
  · rw [← hW1, hrec]; exact run_enterLoop_outer _ _ _ _ _
  · simp only [resolve, hg]
    simp [go_sem]
  · intro f' hf'; simp [Target.leads] at hf'; subst hf'; exact hFg
  · simp [invoke, go_sem, eg]
  · have stay : ∀ {A B : World} {row : Option Nat} {k : Nat} {o : Obj}, A.grownBy B row → (∀ r, row = some r → W1.heap.size ≤ r) → k < W1.heap.size → A.heap[k]? = some o → B.heap[k]? = some o := fun hg hr hk ho =>
      (hg.block _ (Array.getElem?_eq_some_iff.1 ho).1 (fun e => by have := hr _ e.symm; omega)).trans ho
    refine (hseq (w.heap.size + 1)
      (fun pre W => I pre W ∧ W.heap[w.heap.size + 1]? = some (.loop (rec .ready none)) ∧ W.heap[w.heap.size]? = some (.deferred (some [])))
      (fun pre W => ∃ c, Ix c pre W ∧ W.heap[w.heap.size + 1]? = some (.loop (rec .done (some c))) ∧ W.heap[w.heap.size]? = some (.deferred (some [])))
      W1 hb1 ?_ ?_ ?_ ?_ ⟨hI1.1, hL1, hK1⟩).mono ?_
    · rintro pre A B row ⟨hi, hl, hk⟩ hg hr
      obtain ⟨q1, q2⟩ := hI pre A B row hi hg (fun r e => ⟨by have := (hr r e).1; omega, (hr r e).2⟩)
      exact ⟨⟨q1, stay hg (fun r e => (hr r e).1) (by omega) hl, stay hg (fun r e => (hr r e).1) (by omega) hk⟩, q2⟩
    · rintro pre A ⟨hi, hl, hk⟩ b hb hlt
      refine hOZ pre A hi b hb ?_
      by_cases e1 : b = w.heap.size
      · subst e1
        obtain ⟨o2, h2, h3⟩ := hOC _ _ hi _ hb
        rw [hk] at h2; cases h2; cases h3
      · by_cases e2 : b = w.heap.size + 1
        · subst e2
          obtain ⟨o2, h2, h3⟩ := hOC _ _ hi _ hb
          rw [hl] at h2; cases h2; cases h3
        · omega
    · rintro pre x W ⟨hi, hl, hk⟩ hx hws hlen
      have hlt : w.heap.size + 1 < W.heap.size := (Array.getElem?_eq_some_iff.1 hl).1
      have hy := run_yield (P := P) (args := encs x) hl (by rw [hrec]; exact hps x)
      rw [hrec] at hy
      refine ⟨fn, _, assign, body, hy, roundIn_of_wpIn hfn (hassign _ x W _ ⟨_, run_beginRound hl (by rw [hrec]), ?_⟩)⟩
      obtain ⟨A2, hA2⟩ : ∃ A2, W.putObj (w.heap.size + 1) (.loop { rec .ready none with state := .busy }) = A2 := ⟨_, rfl⟩
      have hl2 : A2.heap[w.heap.size + 1]? = some (.loop { rec .ready none with state := .busy }) := by rw [← hA2]; exact World.putObj_heap_same hlt
      have hk2 : A2.heap[w.heap.size]? = some (.deferred (some [])) := by rw [← hA2]; exact (World.putObj_heap_other (by omega)).trans hk
      have hi2 : I pre A2 := by rw [← hA2]; exact (hput _ hi (by omega) hl rfl).1
      have hx2 : X x A2 := by rw [← hA2]; exact hX _ _ _ _ _ (by omega) hx hl rfl
      have hp2 : KpO own W A2 := by rw [← hA2]; exact hkp _ hi (by omega) hl rfl
      have hs2 : w.heap.size ≤ A2.heap.size := by have := hp2.size; omega
      have hA2' : W.putObj (w.heap.size + 1) (.loop { state := .busy, pending := none, fn := fn, tmps := a.tmps, params := ps, assign := assign, body := body, defers := w.heap.size }) = A2 := by rw [← hA2, hrec]
      rw [hrec]
      simp only
      rw [hA2']
      refine wpIn_mono (hbody _ pre x _ hi2 hx2 hs2 hlen) ?_
      have fin : ∀ (jump : Option Code) (W3 : World), KeepsFrom w.heap.size A2 W3 →
          (Instr.endRound (w.heap.size + 1) jump).run P W3 = .ok (.bool jump.isNone) (W3.putObj (w.heap.size + 1) (.loop (rec (if jump.isNone then .ready else .done) jump))) ∧
          W3.heap[w.heap.size + 1]? = some (.loop { rec .ready none with state := .busy }) ∧
          (W3.putObj (w.heap.size + 1) (.loop (rec (if jump.isNone then .ready else .done) jump))).heap[w.heap.size + 1]? = some (.loop (rec (if jump.isNone then .ready else .done) jump)) ∧
          (W3.putObj (w.heap.size + 1) (.loop (rec (if jump.isNone then .ready else .done) jump))).heap[w.heap.size]? = some (.deferred (some [])) := fun jump W3 hk3 => by
        have hl3 := hk3.same _ _ (by omega) hl2 rfl
        have := run_endRound (P := P) jump hl3
        rw [hrec] at this ⊢
        exact ⟨this, by rw [hrec] at hl3; exact hl3, World.putObj_heap_same (Array.getElem?_eq_some_iff.1 hl3).1, (World.putObj_heap_other (by omega)).trans (hk3.same _ _ (Nat.le_refl _) hk2 rfl)⟩
      rintro e a3 W3 hp
      cases e with
      | normal =>
        obtain ⟨hk3, hkp3, hi3⟩ := hp
        obtain ⟨hr, hl3, hl4, hk4⟩ := fin none W3 hk3
        exact ⟨_, _, hr, .inl ⟨rfl, ⟨(hput _ hi3 (by omega) hl3 rfl).1, by have q := hl4; rw [hrec] at q ⊢; exact q, hk4⟩, (hp2.trans hkp3).trans (hkp _ hi3 (by omega) hl3 rfl)⟩⟩
      | exit id =>
        obtain ⟨hk3, hi3⟩ := hp
        obtain ⟨hr, hl3, hl4, hk4⟩ := fin (some (.exit id)) W3 hk3
        exact ⟨_, _, hr, .inr ⟨rfl, .exit id, hIx _ _ _ _ _ _ hi3 (by omega) hl3 rfl, by have q := hl4; rw [hrec] at q ⊢; exact q, hk4⟩⟩
      | ret => exact hp.elim
      | goto t => exact hp.elim
      | panic ch => exact hp.elim
      | outgrown => exact hp.elim
    · rintro pre A ⟨hi, -, -⟩ b q
      obtain ⟨o2, h2, -⟩ := hOC _ _ hi _ q
      exact (Array.getElem?_eq_some_iff.1 h2).1
    · rintro e W2 ⟨⟨v, rfl⟩, (⟨xs, hS, hi, hl, hk⟩ | ⟨pre, hSp, c, hi, hl, hk⟩)⟩
      · exact ⟨none, _, by have := run_endLoop (P := P) hl (by rw [hrec]; simp); rw [hrec] at this; exact this, hdone _ xs _ (Nat.le_refl _) hS (hput _ hi (by omega) hl rfl).1 ((World.putObj_heap_other (by omega)).trans hk)⟩
      · exact ⟨some c, _, by have := run_endLoop (P := P) hl (by rw [hrec]; simp); rw [hrec] at this; exact this, hstop _ c pre _ (Nat.le_refl _) hSp (hIx _ _ _ _ _ _ hi (by omega) hl rfl) ((World.putObj_heap_other (by omega)).trans hk)⟩
section
variable {ops : Array Oper} {Q : Exit → Act → World → Prop}
def Oper.plain (o : Oper) : Bool := match o.op with | .defer _ => false | _ => true
theorem op_round {o : Oper} {a : Act} {w : World} {K K' : Act → World → Prop} (l n : Nat) (hd : Oper.plain o = true) (hK : ∀ a w, K a w → K' a w) (h : o.wp P a w K Q) : o.wpIn (Fence.wide.inRound l) n P a w K' Q := by
  refine ⟨fun f _ => trivial, ?_⟩
  rw [Oper.semAt_eq _ _ _ (fun c e => by rw [Oper.plain, e] at hd; cases hd)]
  unfold Oper.wp at h
  generalize (execOp a.eval o).run P w = r at h
  match r, h with
  | .ok (.value v) w', h => exact hK _ _ h
  | .ok .skip w', h => exact hK _ _ h
  | .ok (.defer d) w', h => exact hK _ _ h
  | .ok (.enter f args) w', h =>
    refine ⟨fun e => by simp [Fence.wide, Fence.inRound] at e, ?_⟩
    refine CallsIn.inRound l ((callsIn_wide (n := n - 1)).2 (Calls.mono h ?_))
    intro e w'' he
    match e, he with
    | .returned v, he => exact hK _ _ he
    | .panicked c, he => exact he
    | .outgrown, he => exact he
  | .ok (.row row args) w', h =>
    refine ⟨fun e => by simp [Fence.wide, Fence.inRound] at e, ?_⟩
    intro c cs _
    obtain ⟨v, w'', r, s⟩ := h c cs
    exact ⟨v, w'', hK _ _ r, stepsIn_wide.2 s⟩
  | .halt (.panic v) w', h => exact h
theorem list_round (l n : Nat) (hno : ¬ LetsOut Q) : ∀ (rest : List Oper) (a : Act) (w : World), rest.all Oper.plain = true → wpList P ops Q rest a w → wpListIn (Fence.wide.inRound l) n P ops Q rest a w
  | [], _, _, _, h => h
  | o :: rest, a, w, hd, h => by
    rw [List.all_cons, Bool.and_eq_true] at hd
    unfold wpList at h
    unfold wpListIn
    split at h
    · rename_i hw
      rw [if_pos hw]
      rcases h with h | ⟨_, h⟩
      · exact op_round l n hd.1 (fun a w => list_round l n hno rest a w hd.2) h
      · exact (hno h).elim
    · rename_i hw
      rw [if_neg hw]
      exact ⟨fun _ _ => trivial, list_round l n hno rest _ _ hd.2 h⟩
/-- a plain region in a round is walked as outside -/
theorem region_round {id l n : Nat} {a : Act} {w : World} (hd : ops.toList.all Oper.plain = true) (hno : ¬ LetsOut Q) (h : (wpList P ops Q ops.toList a w)) : (Code.region id ops false).wpIn (Fence.wide.inRound l) n P Q a w :=
  wpIn_region_list (list_round l n hno _ _ _ hd h)
end
end Go.Proofs.Ytfkchnjbbbhmjaa
namespace Go.Proofs.Ytfkchnjbbbhmjaa.Ty
open Go Go.RowKit
section
variable {P : Program} {ops : Array Oper} {Q : Exit → Act → World → Prop} {md : Region.Mode}

theorem wpAnyH_weaken {S S' : World → Prop} (h : ∀ w, S' w → S w) : ∀ (fuel : Nat) (listed : Array Bool) (a : Act) (w : World), wpAnyH P md ops Q S' fuel listed a w → wpAnyH P md ops Q S fuel listed a w
  | 0, _, _, _, k => k
  | fuel + 1, _, _, _, k => ⟨k.1, fun i hi => wpOp_mono (fun a' w' k' => ⟨h w' k'.1, wpAnyH_weaken h fuel _ a' w' k'.2⟩) (k.2 i hi)⟩

/-- whatever comes up from here on; w0: the world behind the last call -/
def Held (P : Program) (ops : Array Oper) (Q : Exit → Act → World → Prop) (w0 : World) (fuel : Nat) (listed : Array Bool) (a : Act) (w : World) : Prop :=
  wpAnyH P .any ops (NoPanic Q) (fun w' => Below w0.heap.size w0 w') fuel listed a w

theorem held_begin {id : Nat} {a : Act} {w : World} (n : Nat) (hn : ops.size = n) (hm : P.follows .mixedOrders = true) (h : Held P ops Q w.drew n (Array.replicate n false) a w.drew) : (Code.region id ops true).wp P Q a w := by
  subst hn
  exact wp_region_noPanic (wp_region_held hm h)
theorem held_take {i : Nat} {oi : Oper} {d : Option Nat} {v : Value} {fuel : Nat} {listed : Array Bool} {a : Act} {w w0 : World} (hi : ops[i]? = some oi)
    (hs : Region.noSelect ops = true) (hf : Region.free .any ops listed i = true) (hr : (Region.ready .any ops listed).contains i = true)
    (hw : Region.wanted oi (yielded ops a.tmps) = true) (hy : ∀ w', Below w0.heap.size w0 w' → (execOp a.eval oi).run P w' = .ok (.value v) w') (hS : Below w0.heap.size w0 w) (hdst : oi.dst = d)
    (h : Held P ops Q w0 fuel (listed.setIfInBounds i true) (a.put d v) w) : Held P ops Q w0 (fuel + 1) listed a w := by
  subst hdst
  exact wpAnyH_take hi hs hf hr (fun _ _ _ h => h) (Or.inl ⟨hw, hy⟩) hS h
theorem held_skip {i : Nat} {oi : Oper} {d : Option Nat} {fuel : Nat} {listed : Array Bool} {a : Act} {w w0 : World} (hi : ops[i]? = some oi)
    (hs : Region.noSelect ops = true) (hf : Region.free .any ops listed i = true) (hr : (Region.ready .any ops listed).contains i = true)
    (hw : Region.wanted oi (yielded ops a.tmps) = false) (hS : Below w0.heap.size w0 w) (hdst : oi.dst = d)
    (h : Held P ops Q w0 fuel (listed.setIfInBounds i true) (a.put d undef) w) : Held P ops Q w0 (fuel + 1) listed a w := by
  subst hdst
  exact wpAnyH_take hi hs hf hr (fun _ _ _ h => h) (Or.inr ⟨hw, rfl⟩) hS h
theorem held_call {i : Nat} {oi : Oper} {d : Option Nat} {f : FuncId} {args : Array Value} {fuel : Nat} {listed : Array Bool} {a : Act} {w w0 : World} (hi : ops[i]? = some oi)
    (hr : Region.ready .any ops listed = [i]) (hw : Region.wanted oi (yielded ops a.tmps) = true) (hy : (execOp a.eval oi).run P w = .ok (.enter f args) w) (hS : Below w0.heap.size w0 w) (hdst : oi.dst = d)
    (h : Calls P f args w fun e w' => ∃ v, e = .returned v ∧ Below w.heap.size w w' ∧ Held P ops Q w' fuel (listed.setIfInBounds i true) (a.put d v) w') : Held P ops Q w0 (fuel + 1) listed a w := by
  subst hdst
  refine wpAnyH_all hr (by simp) ?_
  intro j hj
  obtain rfl : j = i := by simpa using hj
  unfold wpOp
  simp only [hi, hw, if_true]
  left
  unfold Oper.wp
  rw [hy]
  refine h.mono ?_
  rintro e w' ⟨v, rfl, hb, hk⟩
  have hb' := hS.trans (hb.mono hS.size)
  exact ⟨hb', wpAnyH_weaken (fun w'' h'' => hb'.trans (h''.mono hb'.size)) _ _ _ _ hk⟩
/-- an operation that comes up alone and makes memory of its own (a builtin, a new variable): the condition stays -/
theorem held_run {i : Nat} {oi : Oper} {d : Option Nat} {v : Value} {fuel : Nat} {listed : Array Bool} {a : Act} {w w' w0 : World} (hi : ops[i]? = some oi)
    (hr : Region.ready .any ops listed = [i]) (hw : Region.wanted oi (yielded ops a.tmps) = true) (hy : (execOp a.eval oi).run P w = .ok (.value v) w') (hdst : oi.dst = d)
    (hS : Below w0.heap.size w0 w') (h : Held P ops Q w0 fuel (listed.setIfInBounds i true) (a.put d v) w') : Held P ops Q w0 (fuel + 1) listed a w := by
  subst hdst
  refine wpAnyH_all hr (by simp) ?_
  intro j hj
  obtain rfl : j = i := by simpa using hj
  unfold wpOp
  simp only [hi, hw, if_true]
  left
  unfold Oper.wp
  rw [hy]
  exact ⟨hS, h⟩
theorem exec_append {o : Oper} {a : Act} {w w' : World} {s x : Operand} {t tx : TypeId} {v xv v' : Value} (ho : o.op = .call { callee := .builtin .append, args := #[s, x], argTypes := #[t, tx] }) (hs : a.eval s = v) (hx : a.eval x = xv)
    (hr : (Builtin.append_ #[t, tx] o.type #[v, xv]).run P w = .ok v' w') : (execOp a.eval o).run P w = .ok (.value v') w' := by
  unfold execOp
  simp only [ho, resolve, invoke, builtin, Sem.run_bind, Sem.run_pure, Result.andThen_ok, List.map_toArray, List.map_cons, List.map_nil, hs, hx, hr]
theorem held_done {fuel : Nat} {listed : Array Bool} {a : Act} {w w0 : World} (hr : Region.ready .any ops listed = []) (h : Q .normal a w) : Held P ops Q w0 fuel listed a w :=
  wpAnyH_done hr (NoPanic.normal h) fuel
end
end Go.Proofs.Ytfkchnjbbbhmjaa.Ty
namespace Go.Proofs.Ytfkchnjbbbhmjaa.Ty
open Go.RowKit
open Tal
variable {B T : Nat}
end Go.Proofs.Ytfkchnjbbbhmjaa.Ty
namespace Go.Proofs.Ytfkchnjbbbhmjaa.Ty
open Go.RowKit
open Tal
theorem RdE.gb {w w' : World} {R : Nat} {e : Int} {r : Option Nat} (h : RdE w R e) (hg : w.grownBy w' r) (hr : some R ≠ r) : RdE w' R e :=
  h.below (hg.block R h.1 hr) hg.size
/-- a reader stays where a block beyond it turns -/
theorem St.gb {w w' : World} {R g : Nat} {rest : List Int} {e : Int} (h : St w R rest e) (hg : w.grownBy w' (some g)) (hr : R < g) : St w' R rest e := by
  refine ⟨h.1.gb hg (by intro q; injection q with q; omega), fun he => ?_⟩
  obtain ⟨a, cap, h0, hc, hm, hrow, hlt⟩ := h.2 he
  refine ⟨a, cap, (cell_block (hg.block R h.1.1 (by intro q; injection q with q; omega))).1.trans h0, hc, hm, hrow.gb hg (.inr (fun x hx => by have := hlt x hx; omega)), hlt⟩
/-- the document's reader stays where a block turns that is not its own nor its bytes' -/
theorem RSt.gb {B T : Nat} {w w' : World} {X g : Nat} {rest : List Int} {e : Int} (h : RSt B T w X rest e) (hg : w.grownBy w' (some g)) (hr : g < B ∧ g ≠ X ∨ X < g) : RSt B T w' X rest e := by
  obtain ⟨zs, p, ⟨hX, ⟨a, cap, h0, hc, hm, hrow, hlt⟩, h1, h2, f0, f1, f2, hp, hl⟩, hd⟩ := h
  have hne : some X ≠ some g := by intro q; injection q with q; omega
  have hk := fun j => @cell_block w w' X j (hg.block X hX hne)
  exact ⟨zs, p, ⟨Nat.lt_of_lt_of_le hX hg.size, ⟨a, cap, (hk 0).1.trans h0, hc, hm, hrow.gb hg (.inr (fun x hx => by have := hlt x hx; omega)), hlt⟩, (hk 1).1.trans h1, (hk 2).1.trans h2, (hk 0).2.trans f0, (hk 1).2.trans f1, (hk 2).2.trans f2, hp, hl⟩, hd⟩
/-- all blocks of w but R and X lie in W as they lay -/
structure Kept (w : World) (R X : Nat) (W : World) : Prop where
  os : W.os = w.os
  tape : W.tape = w.tape
  output : W.output = w.output
  size : w.heap.size ≤ W.heap.size
  block : ∀ k, k < w.heap.size → k ≠ R → k ≠ X → W.heap[k]? = w.heap[k]?
theorem Kept.refl (w : World) (R X : Nat) : Kept w R X w := ⟨rfl, rfl, rfl, Nat.le_refl _, fun _ _ _ _ => rfl⟩
theorem Kept.gb {w W W' : World} {R X g : Nat} (h : Kept w R X W) (hg : W.grownBy W' (some g)) (hr : g = R ∨ g = X ∨ w.heap.size ≤ g) : Kept w R X W' :=
  ⟨hg.os.trans h.os, hg.tape.trans h.tape, hg.output.trans h.output, Nat.le_trans h.size hg.size, fun k hk k1 k2 => (hg.block k (Nat.lt_of_lt_of_le hk h.size) (by intro q; injection q with q; omega)).trans (h.block k hk k1 k2)⟩
theorem Kept.below {w W W' : World} {R X : Nat} (h : Kept w R X W) (hb : Below W.heap.size W W') : Kept w R X W' :=
  ⟨hb.os.trans h.os, hb.tape.trans h.tape, hb.output.trans h.output, Nat.le_trans h.size hb.size, fun k hk k1 k2 => (hb.block k (Nat.lt_of_lt_of_le hk h.size)).trans (h.block k hk k1 k2)⟩
theorem Kept.to {w0 w W : World} {R X : Nat} (h : Kept w R X W) (hb : Below w0.heap.size w0 w) (hR : w0.heap.size ≤ R) (hX : w0.heap.size ≤ X) : Below w0.heap.size w0 W :=
  ⟨h.os.trans hb.os, h.tape.trans hb.tape, h.output.trans hb.output, Nat.le_trans hb.size h.size, fun k hk => (h.block k (Nat.lt_of_lt_of_le hk hb.size) (by omega) (by omega)).trans (hb.block k hk)⟩
/-- both readers, at the same bytes with the same error -/
structure Two (B T : Nat) (w : World) (R X : Nat) (W : World) (rest : List Int) (e : Int) : Prop where
  own : St W R rest e
  doc : RSt B T W X rest e
  kept : Kept w R X W
theorem Two.below {B T : Nat} {w W W' : World} {R X : Nat} {rest : List Int} {e : Int} (h : Two B T w R X W rest e) (hb : Below W.heap.size W W') : Two B T w R X W' rest e :=
  ⟨h.own.below hb, h.doc.below hb, h.kept.below hb⟩
theorem Two.gb {B T : Nat} {w W W' : World} {R X g : Nat} {rest : List Int} {e : Int} (h : Two B T w R X W rest e) (hg : W.grownBy W' (some g)) (h1 : R < X) (h2 : X < g) (h3 : w.heap.size ≤ g) : Two B T w R X W' rest e :=
  ⟨h.own.gb hg (by omega), h.doc.gb hg (.inr h2), h.kept.gb hg (.inr (.inr h3))⟩
/-- one step of both -/
theorem Two.step {B T : Nat} {w W W1 W2 : World} {R X : Nat} {rest rest' : List Int} {e e' : Int} (h : Two B T w R X W rest e) (hRX : R < X) (hRB : R < B)
    (s1 : St W1 R rest' e') (g1 : W.grownBy W1 (some R)) (s2 : RSt B T W1 X rest e → RSt B T W2 X rest' e' ∧ W1.grownBy W2 (some X)) : Two B T w R X W2 rest' e' := by
  have hd := h.doc.gb g1 (.inl ⟨hRB, by omega⟩)
  obtain ⟨d2, g2⟩ := s2 hd
  exact ⟨s1.gb g2 hRX, d2, (h.kept.gb g1 (.inl rfl)).gb g2 (.inr (.inl rfl))⟩
theorem numR_nonneg (zs : List Int) (hz : ∀ z ∈ zs, 0 ≤ z ∧ z < 256) : 0 ≤ (numR zs).1 := by
  cases zs with
  | nil => simp [numR]
  | cons k tl =>
    simp only [numR]
    split
    · simp
    · split
      · simp
      · split
        · have hb := val_bound (tl.take k.toNat) (fun z hzz => hz z (List.mem_cons_of_mem _ (List.mem_of_mem_take hzz)))
          simp only [valR]
          split
          · simp
          · exact hb.1
        · simp
theorem St.pos {w : World} {R : Nat} {rest : List Int} {e : Int} (h : St w R rest e) : 0 ≤ (numS rest e 9223372036854775807).1 := by
  unfold numS
  by_cases he : e = 0
  · rw [if_pos he]
    obtain ⟨a, cap, h0, hc, hm, hrow, hlt⟩ := h.2 he
    have := numR_nonneg rest hrow.2.1
    split
    · split
      · simp
      · exact this
    · simp
  · rw [if_neg he]; simp
end Go.Proofs.Ytfkchnjbbbhmjaa.Ty
