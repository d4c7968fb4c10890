/- the tags that a body has in it; Claims; the keys of the statements; seal: Check; the example; EnvelopeBack; messages by value; What a law of this seat is told:  -/
import Derived.Test.YtcbpbkefggekmaaGreatDoorJB0
import Derived.Test.YtcbpbkefggekmaaGreatDoorJB12
import Derived.Test.YtcbpbkefggekmaaGreatDoorJB11
import Derived.Test.YtcbpbkefggekmaaGreatDoorJB2
import Derived.Test.YtcbpbkefggekmaaGreatDoorJB10
import Derived.Test.YtcbpbkefggekmaaGreatDoorJB3
import Derived.Test.YtcbpbkefggekmaaGreatDoorJB7
import Derived.Test.YtcbpbkefggekmaaGreatDoorJB5
import Derived.Deep.Cut
import Derived.Deep.DeepCutAuto
import Derived.Deep.Slices
import Derived.Test.YtcbpbkefggekmaaGreatDoorRows
import Derived.ProofKit
import Derived.OpenShut
import Derived.ShutString
import Derived.ChangeOld
import Derived.Below
import Derived.Lib.LaidTab
import Derived.Test.YtcbpbkefggekmaaGreatDoorJB1
import Derived.Test.YtcbpbkefggekmaaGreatDoorCards
import Derived.Test.YtcbpbkefggekmaaGreatDoorTie
import Derived.LaidMore
import Derived.Stop.Joined
namespace Go.Proofs.YtcbpbkefggekmaaGreatDoor
open Go.RowKit
open Sha Tal
set_option linter.unusedVariables false
set_option linter.unusedSimpArgs false
theorem sl_lt {α : Type} {E : El α} {w : World} {x : Sl α} (h : x.At E w) : x.Bk (fun b => b < w.heap.size) := fun b h1 h2 => by
 rcases h.2.2 with q | ⟨c, off, e, hlt, _⟩
 ·exact absurd q h1
 ·rw [e] at h2
  cases h2
  exact hlt
theorem mg_lt {m : Mg} {w : World} (h : m.At w) : m.Bk (fun b => b < w.heap.size) :=
 ⟨sl_lt h.rs, sl_lt h.he.1, fun y hy => ⟨sl_lt (h.he.2 y hy).1, sl_lt (h.he.2 y hy).2⟩, sl_lt h.ne, sl_lt h.cs, sl_lt h.sg⟩
theorem Mg.Bk.mono {m : Mg} {P P' : Nat → Prop} (k : m.Bk P) (hp : ∀ b, P b → P' b) : m.Bk P' :=
 ⟨k.1.mono hp, k.2.1.mono hp, fun y hy => (k.2.2.1 y hy).mono hp, k.2.2.2.1.mono hp, k.2.2.2.2.1.mono hp, k.2.2.2.2.2.mono hp⟩
structure Fit (m : Mp) (n : Nat) : Prop where
 same : ∀ N, ownC N m = ownX N m
 le : ∀ N, (ownC N m).length ≤ 10000
 rs : ∀ r ∈ m.rs, r.s.size ≤ 100000
 he : ∀ h ∈ m.he, ∀ r ∈ h.rs, r.s.size ≤ 100000
 nl : m.ne.length ≤ 64
 ne : ∀ e ∈ m.ne, e.s.size ≤ n
theorem mem_flat_le {α : Type} {f : α → List Int} {xs : List α} {x : α} (h : x ∈ xs) : (f x).length ≤ (xs.flatMap f).length := by
 obtain ⟨a, b, rfl⟩ := List.append_of_mem h
 simp only [List.flatMap_append, List.flatMap_cons, List.length_append]
 omega
theorem rq_small {r : Rq} (h : rqOk r) : r.s.size ≤ 100000 := by have := h.2.2.1; omega
theorem heC_bound {N : Int} {hs : List Hp} (h : ∀ x ∈ hs, hpOk x) : (heC N hs).length ≤ hs.length * 68 := by
  induction hs with
  | nil => simp [heC]
  | cons a l ih =>
    have h1 := h a (by simp)
    have h2 := ih (fun x hx => h x (by simp [hx]))
    have h3 := h1.1.2.1
    have h4 := h1.2.2.1
    simp only at h3 h4
    unfold heC at h2 ⊢
    simp only [List.flatMap_cons, List.length_append, hdC, batC_len, cerC_len, List.length_cons] at h2 ⊢
    omega
theorem own_none (N : Int) {m : Mp} (h1 : m.rs = []) (h2 : m.cs = []) (h3 : m.he = []) (h4 : m.sg = []) : ownC N m = [] ∧ ownX N m = [] := by
 unfold ownC ownX
 rw [h1, h2, h3, h4]
 constructor
 ·rfl
 ·show [] ++ [] ++ (if m.k = 7 then [] else []) ++ [] = []
  split <;> rfl
theorem fit_of {m : Mp} (h : m.good) (n : Nat) (hn : m.bytes.length = n) : Fit m n := by
 rcases h with ⟨hk, h⟩ | ⟨hk, h⟩ | ⟨hk, h⟩ | ⟨hk, h⟩ | ⟨hk, h⟩ | ⟨hk, h⟩ | ⟨hk, h⟩ | ⟨hk, h⟩
 ·have ec : m.cs = [] := by rw [← h.2]; rfl
  have eh : m.he = [] := by rw [← h.2]; rfl
  have es : m.sg = [] := by rw [← h.2]; rfl
  have en : m.ne = [] := by rw [← h.2]; rfl
  have hb := h.1.2.2.2
  refine ⟨fun N => ?_, fun N => ?_, fun r hr => rq_small (hb.2 r hr), fun x hx => by simp [eh] at hx, by rw [en]; simp, fun x hx => by simp [en] at hx⟩
  ·unfold ownC ownX
   rw [ec, eh, es, if_neg (by rw [hk]; decide)]
   simp [cerC, heC]
  ·unfold ownC
   rw [ec, eh, es]
   simp only [List.length_append, batC_len, cerC_len, sgC_len, heC, List.flatMap_nil, List.length_nil]
   have := hb.1
   simp only at this
   omega
 ·obtain ⟨e1, e2, e3, e4, e5⟩ : m.rs = [] ∧ m.cs = [] ∧ m.he = [] ∧ m.sg = [] ∧ m.ne = [] := by rw [← h.2]; exact ⟨rfl, rfl, rfl, rfl, rfl⟩
  exact ⟨fun N => by rw [(own_none N e1 e2 e3 e4).1, (own_none N e1 e2 e3 e4).2], fun N => by rw [(own_none N e1 e2 e3 e4).1]; simp, fun r hr => by simp [e1] at hr, fun x hx => by simp [e3] at hx, by rw [e5]; simp, fun x hx => by simp [e5] at hx⟩
 ·obtain ⟨e1, e2, e4, e5⟩ : m.rs = [] ∧ m.cs = [] ∧ m.sg = [] ∧ m.ne = [] := by rw [← h.2]; exact ⟨rfl, rfl, rfl, rfl⟩
  have hb := h.1.2.2.2
  simp only at hb
  refine ⟨fun N => ?_, fun N => ?_, fun r hr => by simp [e1] at hr, fun x hx r hr => rq_small ((hb.2 x hx).1.2.2 r hr), by rw [e5]; simp, fun x hx => by simp [e5] at hx⟩
  ·unfold ownC ownX
   rw [e1, e2, e4, if_neg (by rw [hk]; decide)]
   simp [cerC, batC]
  ·have h1 := heC_bound (N := N) hb.2
   unfold ownC
   rw [e1, e2, e4]
   simp only [List.length_append, batC_len, cerC_len, sgC_len, List.length_nil]
   have := hb.1
   omega
 ·obtain ⟨e1, e2, e3, e4⟩ : m.rs = [] ∧ m.cs = [] ∧ m.he = [] ∧ m.sg = [] := by rw [← h.2]; exact ⟨rfl, rfl, rfl, rfl⟩
  have hb := h.1.2.2.2
  refine ⟨fun N => by rw [(own_none N e1 e2 e3 e4).1, (own_none N e1 e2 e3 e4).2], fun N => by rw [(own_none N e1 e2 e3 e4).1]; simp, fun r hr => by simp [e1] at hr, fun x hx => by simp [e3] at hx, by have := hb.1; omega, fun x hx => ?_⟩
  have h1 := mem_flat_le (f := evL) hx
  have h2 : x.s.size ≤ (evL x).length := by
   unfold evL textL
   simp only [List.length_append, strL_length]
   omega
  rw [← hn]
  unfold Mp.bytes
  rw [if_neg (by rw [hk]; decide), if_neg (by rw [hk]; decide), if_neg (by rw [hk]; decide), if_pos hk]
  unfold body4 evsL
  simp only [List.length_append]
  omega
 ·obtain ⟨e1, e2, e3, e4, e5⟩ : m.rs = [] ∧ m.cs = [] ∧ m.he = [] ∧ m.sg = [] ∧ m.ne = [] := by rw [← h.2]; exact ⟨rfl, rfl, rfl, rfl, rfl⟩
  exact ⟨fun N => by rw [(own_none N e1 e2 e3 e4).1, (own_none N e1 e2 e3 e4).2], fun N => by rw [(own_none N e1 e2 e3 e4).1]; simp, fun r hr => by simp [e1] at hr, fun x hx => by simp [e3] at hx, by rw [e5]; simp, fun x hx => by simp [e5] at hx⟩
 ·obtain ⟨e1, e2, e3, e4, e5⟩ : m.rs = [] ∧ m.cs = [] ∧ m.he = [] ∧ m.sg = [] ∧ m.ne = [] := by rw [← h.2]; exact ⟨rfl, rfl, rfl, rfl, rfl⟩
  exact ⟨fun N => by rw [(own_none N e1 e2 e3 e4).1, (own_none N e1 e2 e3 e4).2], fun N => by rw [(own_none N e1 e2 e3 e4).1]; simp, fun r hr => by simp [e1] at hr, fun x hx => by simp [e3] at hx, by rw [e5]; simp, fun x hx => by simp [e5] at hx⟩
 ·obtain ⟨e3, e4, e5⟩ : m.he = [] ∧ m.sg = [] ∧ m.ne = [] := by rw [← h.2]; exact ⟨rfl, rfl, rfl⟩
  have hb := h.1.1.2
  have hc := h.1.2.2.1
  simp only at hb hc
  refine ⟨fun N => ?_, fun N => ?_, fun r hr => rq_small (hb.2 r hr), fun x hx => by simp [e3] at hx, by rw [e5]; simp, fun x hx => by simp [e5] at hx⟩
  ·unfold ownC ownX
   rw [e3, e4, if_pos hk]
   simp [heC]
  ·unfold ownC
   rw [e3, e4]
   simp only [List.length_append, batC_len, cerC_len, sgC_len, heC, List.flatMap_nil, List.length_nil]
   have := hb.1
   omega
 ·obtain ⟨e1, e2, e3, e5⟩ : m.rs = [] ∧ m.cs = [] ∧ m.he = [] ∧ m.ne = [] := by rw [← h.2]; exact ⟨rfl, rfl, rfl, rfl⟩
  have hb := h.1.2.1
  refine ⟨fun N => ?_, fun N => ?_, fun r hr => by simp [e1] at hr, fun x hx => by simp [e3] at hx, by rw [e5]; simp, fun x hx => by simp [e5] at hx⟩
  ·unfold ownC ownX
   rw [e1, e2, e3, if_neg (by rw [hk]; decide)]
   simp [cerC, heC]
  ·unfold ownC
   rw [e1, e2, e3]
   simp only [List.length_append, batC_len, cerC_len, sgC_len, heC, List.flatMap_nil, List.length_nil]
   omega
theorem fit_dec {sb : ByteArray} (h : (decS (strL sb)).2 = 0) : Fit (decS (strL sb)).1 sb.size := by
 obtain ⟨h1, h2⟩ := dec_form (strL_byte sb) h
 exact fit_of h1 _ (by rw [← h2, strL_length])
theorem small_fit {m : Mg} {n : Nat} (h : Fit m.pure n) : Small m := ⟨h.rs, fun x hx r hr => h.he x.pure (List.mem_map_of_mem hx) r hr⟩
def newC (N : Int) (e : Ev) : List Ev := e :: (if (decS (strL e.s)).2 = 0 then ownC N (decS (strL e.s)).1 else [])
def claimsC (N : Int) (sb : ByteArray) : List Ev := if N < 0 ∨ 64 < N then [] else if (decS (strL sb)).2 ≠ 0 then [] else ownC N (decS (strL sb)).1 ++ (decS (strL sb)).1.ne.flatMap (newC N)
theorem newC_len (N : Int) (e : Ev) : (newC N e).length ≤ 10001 := by
 unfold newC
 rw [List.length_cons]
 split
 ·rename_i h
  have := (fit_dec h).le N
  omega
 ·simp
theorem news_len (N : Int) (l : List Ev) : (l.flatMap (newC N)).length ≤ l.length * 10001 := by
  induction l with
  | nil => simp
  | cons a l ih =>
    have := newC_len N a
    simp only [List.flatMap_cons, List.length_append, List.length_cons]
    omega
theorem flat_take {α β : Type} {f : α → List β} {xs : List α} {k : Nat} (hk : k < xs.length) : (xs.take (k + 1)).flatMap f = (xs.take k).flatMap f ++ f xs[k] := by
 have e : xs.take (k + 1) = xs.take k ++ [xs[k]] := by rw [List.take_add_one, List.getElem?_eq_getElem hk]; rfl
 rw [e, List.flatMap_append]
 simp
def ClaimsA (w : World) (cs : List Ev) (en : Ending) (w' : World) : Prop := ∃ x : Sl Ev, en = .returned x.val ∧ x.xs = cs ∧ x.At EvE w' ∧ Below w.heap.size w w'
theorem claims_none (w w' : World) (h : Below w.heap.size w w') : ClaimsA w [] (.returned (.slice none 0 0)) w' := ⟨⟨none, 0, []⟩, rfl, rfl, RowsAt.none, h⟩
theorem outc_rows {w : World} {O : Nat} {v : Value} {cs : List Ev} (h : OutC w O v cs) (hl : cs.length ≤ 1000000000) : ∃ x : Sl Ev, v = x.val ∧ x.xs = cs ∧ x.At EvE w := by
 obtain ⟨x, h1, h2, h3, -⟩ := own_rows (E := EvE) h.own h.ok (by unfold maxLen; omega)
 exact ⟨x, h1, h2, h3⟩
theorem outc_new {w : World} : OutC (w.alloc (.cells #[.slice none 0 0] 64)) w.heap.size (.slice none 0 0) [] :=
 ⟨by simp, by have := range_new w #[.slice none 0 0] 64 0 _ rfl; rwa [Nat.zero_add] at this, there_newN w #[.slice none 0 0] 64 (n := 1) rfl, World.ownsRow_nil _ _ _ _, fun _ h => absurd h List.not_mem_nil⟩
theorem zeroMg (w : World) : (zeroValue 52).run Tryz.prog w = .ok (.agg Mg.none.ms.cells.toArray) w := by kernel_rfl
theorem zeroCls (w : World) : (zeroValue 64).run Tryz.prog w = .ok (.slice none 0 0) w := by kernel_rfl
theorem zeroEv18 (w : World) : (zeroValue 25).run Tryz.prog w = .ok (.agg ([Value.int .i64 0] ++ ([Value.string ⟨#[]⟩] ++ v8 (List.replicate 16 0))).toArray) w := zeroEvE w
set_option maxRecDepth 100000 in
set_option maxHeartbeats 2000000 in
theorem claims_any (N : Int) (sb : ByteArray) (w : World) (hs : sb.size ≤ 40000) : Calls Tryz.prog 19 #[.int .i64 N, .string sb] w fun en w' => ClaimsA w (claimsC N sb) en w' := by
 obtain ⟨zc, hzl, hzr⟩ : ∃ z : List Value, z.length = 119 ∧ (∀ w : World, (zeroValue 52).run Tryz.prog w = .ok (.agg z.toArray) w) := ⟨_, Mg.none_ok.ms.len, zeroMg⟩
 obtain ⟨z18, hyl, hyr⟩ : ∃ z : List Value, z.length = 18 ∧ (∀ w : World, (zeroValue 25).run Tryz.prog w = .ok (.agg z.toArray) w) := ⟨_, rfl, zeroEv18⟩
 have ca := fun O w0 vk ds e he h0 hl => cadd_any O vk ds e w0 h0 he hl
 have cD := fun w0 => decode_any sb hs w0
 have cE := fun (e : Ev) (h : e.s.size ≤ 40000) w0 => decode_any e.s h w0
 have hfd := fit_dec (sb := sb)
 have HCL : claimsC N sb = if N < 0 ∨ 64 < N then [] else if (decS (strL sb)).2 ≠ 0 then [] else ownC N (decS (strL sb)).1 ++ (decS (strL sb)).1.ne.flatMap (newC N) := rfl
 obtain ⟨R, hR⟩ : ∃ R, Hid (claimsC N sb = R) := ⟨_, hide rfl⟩
 rw [hR.out] at HCL ⊢
 generalize decS (strL sb) = pp at cD hfd HCL
 obtain ⟨pm, pe⟩ := pp
 simp only at cD hfd HCL
 have HC0 := hide HCL
 clear HCL hR
 go_enter Tryz.func19, Tryz.ntmps19
 go_upto_region 1 with fail
 by_cases n0 : N < 0
 ·have HE := hide (claims_none w w (Below.refl _ _))
  have hr : R = [] := by rw [HC0.out, if_pos (.inl n0)]
  subst hr
  try simp only [Act.put]
  refine pl_begin ?_
  refine pl_t 13 (?_) (by rfl) ?_ rfl ?_
  rotate_left
  ·go_simp
   try with_reducible rfl
  simp only [nz]
  refine pl_t 14 (.bool true) (by rfl) (by go_simp <;> (try simp [*])) rfl ?_
  simp only [nz]
  refine pl_t 15 (?_) (by rfl) ?_ rfl ?_
  rotate_left
  ·go_simp
   try with_reducible rfl
  simp only [nz]
  refine pl_skip (d := some 16) (by rfl) rfl ?_
  simp only [nz]
  refine pl_skip (d := some 17) (by rfl) rfl ?_
  simp only [nz]
  refine pl_t 18 (?_) (by rfl) ?_ rfl ?_
  rotate_left
  ·go_simp
   try with_reducible rfl
  simp only [nz]
  refine pl_nil ?_
  clear cD cE ca hfd n0 HC0
  go_wp2_with fail
  go_ret
  exact HE.out
 by_cases n1 : 64 < N
 ·have n1' : (64 : Int) < N := n1
  have HE := hide (claims_none w w (Below.refl _ _))
  have hr : R = [] := by rw [HC0.out, if_pos (.inr n1)]
  subst hr
  try simp only [Act.put]
  refine pl_begin ?_
  refine pl_t 13 (?_) (by rfl) ?_ rfl ?_
  rotate_left
  ·go_simp
   try with_reducible rfl
  simp only [nz]
  refine pl_t 14 (.bool false) (by rfl) (by go_simp <;> (try simp [*])) rfl ?_
  simp only [nz]
  refine pl_t 15 (?_) (by rfl) ?_ rfl ?_
  rotate_left
  ·go_simp
   try with_reducible rfl
  simp only [nz]
  refine pl_t 16 (?_) (by rfl) ?_ rfl ?_
  rotate_left
  ·go_simp
   try with_reducible rfl
  simp only [nz]
  refine pl_t 17 (.bool true) (by rfl) (by go_simp <;> (try simp [*])) rfl ?_
  simp only [nz]
  refine pl_t 18 (?_) (by rfl) ?_ rfl ?_
  rotate_left
  ·go_simp
   try with_reducible rfl
  simp only [nz]
  refine pl_nil ?_
  clear cD cE ca hfd n0 n1 n1' HC0
  go_wp2_with fail
  go_ret
  exact HE.out
 have HC0 : Hid (R = if pe ≠ 0 then [] else ownC N pm ++ pm.ne.flatMap (newC N)) := hide (by rw [HC0.out, if_neg (by omega)])
 try simp only [Act.put]
 refine pl_begin ?_
 refine pl_t 13 (?_) (by rfl) ?_ rfl ?_
 rotate_left
 ·go_simp
  try with_reducible rfl
 simp only [nz]
 refine pl_t 14 (.bool false) (by rfl) (by go_simp <;> (try simp [*])) rfl ?_
 simp only [nz]
 refine pl_t 15 (?_) (by rfl) ?_ rfl ?_
 rotate_left
 ·go_simp
  try with_reducible rfl
 simp only [nz]
 refine pl_t 16 (?_) (by rfl) ?_ rfl ?_
 rotate_left
 ·go_simp
  try with_reducible rfl
 simp only [nz]
 refine pl_t 17 (.bool false) (by rfl) (by go_simp <;> (try simp [*])) rfl ?_
 simp only [nz]
 refine pl_t 18 (?_) (by rfl) ?_ rfl ?_
 rotate_left
 ·go_simp
  try with_reducible rfl
 simp only [nz]
 refine pl_nil ?_
 clear n0 n1
 go_upto_region 3 with fail
 try simp only [Act.put]
 refine pl_begin ?_
 refine pl_t 20 (?_) (by rfl) ?_ rfl ?_
 rotate_left
 ·go_simp
  try with_reducible rfl
 simp only [nz]
 refine pl_call (d := some 21) (by rfl) (by go_simp; first | done | exact ⟨rfl, rfl⟩ | with_reducible rfl) rfl ?_
 refine (cD w).mono ?_
 rintro _ w1 ⟨m, rfl, mp, mo, ma, mb, hb1⟩
 refine ⟨_, rfl, ?_⟩
 simp only [nz]
 have hml : m.ms.cells.length = 119 := mo.ms.len
 have hm1 := mo.ms.one
 have him : (Tryz.prog.info? 52).map (·.size) = some m.ms.cells.length := by rw [hml]; exact iszM
 obtain ⟨q, hq⟩ : ∃ q, Hid (m.ms.cells = q) := ⟨_, hide rfl⟩
 rw [hq.out] at hml hm1 him
 simp only [hq.out]
 refine pl_t 19 (?_) (by rfl) ?_ rfl ?_
 rotate_left
 ·go_simp
  try with_reducible rfl
 simp only [nz]
 refine pl_t 22 (?_) (by rfl) ?_ rfl ?_
 rotate_left
 ·go_simp
  try with_reducible rfl
 simp only [nz]
 refine pl_t 23 (?_) (by rfl) ?_ rfl ?_
 rotate_left
 ·go_simp
  try with_reducible rfl
 simp only [nz]
 refine pl_run (d := some 5) (v := .pointer (some ⟨w1.heap.size, 0, none⟩)) (w' := w1.alloc (.cells zc.toArray 52)) (by rfl) (ex_alloc rfl (hzr _)) rfl ?_
 simp only [nz]
 refine pl_store (w' := (w1.alloc (.cells zc.toArray 52)).setCells w1.heap.size 0 q) (by rfl) (ex_put (cs := q.toArray) rfl rfl rfl (there_newN _ _ _ (by simp [hzl, hml])) (by simpa using him) (all_one hm1)) rfl ?_
 refine pl_t 6 (?_) (by rfl) ?_ rfl ?_
 rotate_left
 ·go_simp
  try with_reducible rfl
 simp only [nz]
 refine pl_nil ?_
 obtain ⟨r2, hF, hF3, -⟩ := fresh_store w1 zc.toArray 52 q (by simp [hzl, hml])
 have ma2 := ma.below hF
 have HB2 := hide (hb1.trans (hF.mono hb1.size))
 have mlt := (mg_lt ma).mono (P' := fun b => b < w1.heap.size) (fun b h => h)
 obtain ⟨A, hA⟩ : ∃ A, w1.heap.size = A := ⟨_, rfl⟩
 rw [hA] at r2 hF3 mlt HB2
 simp only [hA] at ma2 ⊢
 obtain ⟨w2, hw2⟩ : ∃ W, (w1.alloc (.cells zc.toArray 52)).setCells A 0 q = W := ⟨_, rfl⟩
 rw [hw2] at r2 hF3 HB2 ma2 ⊢
 have sA : A < w2.heap.size := by omega
 clear hw2 hA hF hF3 hb1 ma mb cD
 by_cases e0 : pe = 0
 rotate_left
 ·have hr : R = [] := by rw [HC0.out, if_pos e0]
  subst hr
  have HE := hide (claims_none w w2 HB2.out)
  have e0' : (pe != 0) = true := by simp [e0]
  clear r2 ma2 mlt HB2 cE ca hfd
  go_wp2_with fail
  go_ret
  exact HE.out
 subst e0
 have hfm := hfd rfl
 have HR : Hid (R = ownC N m.pure ++ m.ne.xs.flatMap (newC N)) := hide (by rw [HC0.out, if_neg (by decide), ← mp]; rfl)
 rw [← mp] at hfm
 have HF := hide hfm
 have HS := hide (small_fit hfm)
 clear hfd hfm HC0
 have HMO := hide mo
 have HMS := hide mp
 have hne : w2.cell? ⟨A, 47, none⟩ = some m.ne.val := by
  have := (mo.ms.at (w := w2) (b := A) (by rw [hq.out]; exact r2)).ne
  exact this
 clear mp mo
 go_upto_region 6 with fail
 try simp only [Act.put]
 refine pl_begin ?_
 refine pl_run (d := some 7) (v := .pointer (some ⟨w2.heap.size, 0, none⟩)) (w' := w2.alloc (.cells #[.slice none 0 0] 64)) (by rfl) (ex_alloc (z := .slice none 0 0) rfl (zeroCls _)) rfl ?_
 simp only [nz]
 refine pl_nil ?_
 have ho3 : OutC (w2.alloc (.cells #[.slice none 0 0] 64)) w2.heap.size (.slice none 0 0) [] := outc_new
 have B3 : Below w2.heap.size w2 (w2.alloc (.cells #[.slice none 0 0] 64)) := (Below.refl _ _).alloc (Nat.le_refl _) _
 have ma3 := ma2.below B3
 have r3 := range_below r2 B3 sA
 have hne3 := (B3.cell (p := ⟨A, 47, none⟩) sA).trans hne
 have HB3 := hide (HB2.out.trans (B3.mono HB2.out.size))
 have sO : A < w2.heap.size := sA
 have hOw : w.heap.size ≤ w2.heap.size := HB2.out.size
 obtain ⟨O, hO⟩ : ∃ O, w2.heap.size = O := ⟨_, rfl⟩
 rw [hO] at ho3 sO hOw
 simp only [hO]
 obtain ⟨W, hW⟩ : ∃ W, w2.alloc (.cells #[.slice none 0 0] 64) = W := ⟨_, rfl⟩
 rw [hW] at ho3 ma3 r3 hne3 HB3 B3 ⊢
 have sA3 : A < W.heap.size := Nat.lt_of_lt_of_le sA B3.size
 have mb3 : m.Bk (Clr O (.slice none 0 0)) := mlt.mono (fun b hb => ⟨by omega, fun e => by cases e⟩)
 have hcA : Clr O (.slice none 0 0) A := ⟨by omega, fun e => by cases e⟩
 have cO := oclaims_any N m O (.slice none 0 0) [] W ho3 HMO.out ma3 mb3 (by have := HF.out.le N; simp only [List.length_nil]; omega) HS.out
 rw [hq.out] at cO
 unfold addV at cO
 clear hW hO B3 hne r2 ma2 mlt HB2 sA
 go_upto_region 8 with fail
 try simp only [Act.put]
 refine pl_begin ?_
 refine pl_t 27 (?_) (by rfl) ?_ rfl ?_
 rotate_left
 ·go_simp
  try with_reducible rfl
 simp only [nz]
 refine pl_t 28 (.agg q.toArray) (by rfl) (ex_mid rfl rfl r3 Tryz.underlying52 rfl him) rfl ?_
 simp only [nz]
 refine pl_t 29 (?_) (by rfl) ?_ rfl ?_
 rotate_left
 ·go_simp
  try with_reducible rfl
 simp only [nz]
 refine pl_call (d := some 30) (by rfl) (by go_simp; first | done | exact ⟨rfl, rfl⟩ | with_reducible rfl) rfl ?_
 refine (cO).mono ?_
 rintro _ w4 ⟨rfl, v4, o4, g4⟩
 refine ⟨_, rfl, ?_⟩
 simp only [nz]
 refine pl_nil ?_
 have HC4 : CI W w4 O (.slice none 0 0) v4 ([] ++ ownC N m.pure) := ⟨o4, g4⟩
 have hne4 := (cell_block (j := 47) (g4.keep sA3 hcA).1).1.trans hne3
 obtain ⟨C4, hC4⟩ : ∃ C, Hid ([] ++ ownC N m.pure = C) := ⟨_, hide rfl⟩
 rw [hC4.out] at HC4
 have HC4l : Hid (C4.length ≤ 10000) := hide (by rw [← hC4.out, List.nil_append]; exact HF.out.le N)
 obtain ⟨⟨xa, xc, xs⟩, hxe⟩ : ∃ x, m.ne = x := ⟨_, rfl⟩
 obtain ⟨n, hxn⟩ : ∃ n, xs.length = n := ⟨_, rfl⟩
 have hval : (m.ne).val = .slice xa n xc := by rw [hxe]; unfold Sl.val; rw [← hxn]
 rw [hval] at hne4
 have HXX : Hid (Sl.At EvE W ⟨xa, xc, xs⟩) := hide (by have := ma3.ne; rw [hxe] at this; exact this)
 have HCC : Hid (Sl.Bk (Sl.mk xa xc xs) (Clr O (.slice none 0 0))) := hide (by have := mb3.2.2.2.1; rw [hxe] at this; exact this)
 have hpx : m.pure.ne = xs := by show m.ne.xs = xs; rw [hxe]
 have HNE : Hid (∀ e ∈ xs, e.s.size ≤ 40000) := hide (fun e he => Nat.le_trans (HF.out.ne e (by rw [hpx]; exact he)) hs)
 have HNL : Hid (n ≤ 64) := hide (by have := HF.out.nl; rw [hpx, hxn] at this; exact this)
 have HR2 : Hid (R = C4 ++ xs.flatMap (newC N)) := hide (by rw [HR.out, hxe, ← hC4.out, List.nil_append])
 have HN := hide hxn
 clear hval hxe hxn hpx o4 g4 r3 ma3 mb3 hne3 sA3 hcA ho3 HF HS HR HMO him hml hm1 hC4
 go_upto_region 9 with fail
 try simp only [Act.put]
 refine pl_begin ?_
 refine pl_t 31 (?_) (by rfl) ?_ rfl ?_
 rotate_left
 ·go_simp
  try with_reducible rfl
 simp only [nz]
 refine pl_t 32 (.slice xa n xc) (by rfl) (pl_one rfl rfl hne4 Tryz.underlying47 rfl) rfl ?_
 simp only [nz]
 refine pl_t 33 (?_) (by rfl) ?_ rfl ?_
 rotate_left
 ·go_simp
  try with_reducible rfl
 simp only [nz]
 refine pl_t 34 (?_) (by rfl) ?_ rfl ?_
 rotate_left
 ·go_simp
  try with_reducible rfl
 simp only [nz]
 refine pl_nil ?_
 have HC5 : Hid (CI W w4 O (.slice none 0 0) v4 (C4 ++ (xs.take 0).flatMap (newC N))) := hide (by simpa using HC4)
 clear HC4 hne4 HMS hq cO
 go_wp2_with fail
 go_loopw [34] (fun iv wr => ∃ (k : Nat) (vk : Value), k ≤ n ∧ iv = .int .i64 (k : Int) ∧ Hid (CI W wr O (.slice none 0 0) vk (C4 ++ (xs.take k).flatMap (newC N)))) (fun iv _ => n - (intOf iv).toNat)
 case atStart => exact ⟨0, v4, by omega, rfl, HC5⟩
 case round =>
  clear HC5
  obtain ⟨k, vk, hk, rfl, HK⟩ := hrel
  by_cases hlt : k < n
  ·have k1 : (k : Int) < n := by omega
   have hn9 : n ≤ 64 := HNL.out
   have hkx : k < xs.length := by rw [HN.out]; exact hlt
   obtain ⟨b, off, hab0, hbw, hre0⟩ := (HXX.out.grow HK.out.grow HCC.out).elem k hkx
   have hab : xa = some ⟨b, off, none⟩ := hab0
   have hre : wr.rangeAt b (off + k * 18) (EvE.f xs[k]) := hre0
   clear hab0 hre0
   have okx : Ev.ok xs[k] := HXX.out.2.1 _ (List.getElem_mem hkx)
   have hsz := HNE.out _ (List.getElem_mem hkx)
   have HT : Hid ((xs.take (k + 1)).flatMap (newC N) = (xs.take k).flatMap (newC N) ++ newC N xs[k]) := hide (flat_take hkx)
   have HL : (C4 ++ (xs.take k).flatMap (newC N)).length ≤ 1000000000 := by
    have h1 := news_len N (xs.take k)
    have h2 := HC4l.out
    rw [List.length_take] at h1
    rw [List.length_append]
    omega
   have HL2 : Hid ((C4 ++ (xs.take k).flatMap (newC N)).length ≤ 700000) := hide (by
    have h1 := news_len N (xs.take k)
    have h2 := HC4l.out
    rw [List.length_take] at h1
    rw [List.length_append]
    omega)
   obtain ⟨g, hg⟩ : ∃ g, xs[k] = g := ⟨_, rfl⟩
   rw [hg] at hre okx hsz HT
   clear hg
   have ca := fun w0 vk ds h0 hl => ca O w0 vk ds g okx h0 hl
   have cE := fun w0 => cE g hsz w0
   have hgn : newC N g = g :: (if (decS (strL g.s)).2 = 0 then ownC N (decS (strL g.s)).1 else []) := rfl
   have hfg := fit_dec (sb := g.s)
   have hut : EvE.f g = .int .i64 g.n :: .string g.s :: v8 g.t := rfl
   have it16 : (Tryz.prog.info? 23).map (·.size) = some (v8 g.t).length := by rw [v8_length, okx.tl]; exact iszT
   have iu : (Tryz.prog.info? 25).map (·.size) = some (EvE.f g).length := by rw [EvE.len g okx]; kernel_rfl
   have hul : (EvE.f g).length = 18 := EvE.len g okx
   have hu1 := EvE.one g
   obtain ⟨id, hid⟩ : ∃ i, g.n = i := ⟨_, rfl⟩
   obtain ⟨bd, hbd⟩ : ∃ i, g.s = i := ⟨_, rfl⟩
   obtain ⟨tg, htg⟩ : ∃ t, g.t = t := ⟨_, rfl⟩
   rw [hid, hbd, htg] at hut
   rw [htg] at it16
   rw [hbd] at hfg hgn
   simp only [hid, hbd, htg] at ca cE
   clear okx htg hid hbd hsz
   obtain ⟨u, hu⟩ : ∃ u, Hid (EvE.f g = u) := ⟨_, hide rfl⟩
   rw [hu.out] at hre iu hul hu1 hut
   clear hu
   have HUT := hide hut
   clear hut
   generalize decS (strL bd) = p2 at cE hfg hgn
   obtain ⟨pm2, pe2⟩ := p2
   simp only at cE hfg hgn
   have HGN := hide hgn
   clear hgn
   obtain rfl := hab
   go_upto_region 11 with fail
   obtain ⟨r5, hF, hF3, -⟩ := fresh_store wr z18.toArray 25 u (by simp [hyl, hul])
   try simp only [Act.put]
   refine pl_begin ?_
   refine pl_t 36 (.pointer (some ⟨b, off + k * 18, none⟩)) (by rfl) (by go_simp <;> (try simp [*])) rfl ?_
   simp only [nz]
   refine pl_t 37 (.agg u.toArray) (by rfl) (ex_mid rfl rfl hre Tryz.underlying25 rfl iu) rfl ?_
   simp only [nz]
   refine pl_run (d := some 10) (v := .pointer (some ⟨wr.heap.size, 0, none⟩)) (w' := wr.alloc (.cells z18.toArray 25)) (by rfl) (ex_alloc rfl (hyr _)) rfl ?_
   simp only [nz]
   refine pl_store (w' := (wr.alloc (.cells z18.toArray 25)).setCells wr.heap.size 0 u) (by rfl) (ex_put (cs := u.toArray) rfl rfl rfl (there_newN _ _ _ (by simp [hyl, hul])) (by simpa using iu) (all_one hu1)) rfl ?_
   refine pl_nil ?_
   have HC := HK.out.later hF
   have HX := clr_new HK.out (Nat.le_refl _)
   clear HK
   obtain ⟨X, hX⟩ : ∃ X, wr.heap.size = X := ⟨_, rfl⟩
   simp only [hX] at r5 HC HX hF3 ⊢
   obtain ⟨w5, hw5⟩ : ∃ W, (wr.alloc (.cells z18.toArray 25)).setCells X 0 u = W := ⟨_, rfl⟩
   rw [hw5] at r5 HC hF3 ⊢
   have sX : X < w5.heap.size := by omega
   clear hw5 hX hF hF3 hre
   have c0 : w5.cell? ⟨X, 0, none⟩ = some (.int .i64 id) := by have := r5 0 _ (by rw [HUT.out]; rfl); rwa [Nat.zero_add] at this
   have c1 : w5.cell? ⟨X, 1, none⟩ = some (.string bd) := by have := r5 1 _ (by rw [HUT.out]; rfl); rwa [Nat.zero_add] at this
   have ct : w5.rangeAt X 2 (v8 tg) := fun j y hy => by
    have := r5 (j + 2) y (by rw [HUT.out]; exact hy)
    rw [show 0 + (j + 2) = 2 + j by omega] at this
    exact this
   clear r5
   go_upto_region 12 with fail
   try simp only [Act.put]
   refine pl_begin ?_
   refine pl_t 38 (?_) (by rfl) ?_ rfl ?_
   rotate_left
   ·go_simp
    try with_reducible rfl
   simp only [nz]
   refine pl_t 39 (?_) (by rfl) ?_ rfl ?_
   rotate_left
   ·go_simp
    try with_reducible rfl
   simp only [nz]
   refine pl_t 40 (.int .i64 id) (by rfl) (pl_one rfl rfl c0 Tryz.underlying3 rfl) rfl ?_
   simp only [nz]
   refine pl_t 41 (?_) (by rfl) ?_ rfl ?_
   rotate_left
   ·go_simp
    try with_reducible rfl
   simp only [nz]
   refine pl_t 42 (.string bd) (by rfl) (pl_one rfl rfl c1 Tryz.underlying9 rfl) rfl ?_
   simp only [nz]
   refine pl_t 43 (?_) (by rfl) ?_ rfl ?_
   rotate_left
   ·go_simp
    try with_reducible rfl
   simp only [nz]
   refine pl_t 44 (.agg (v8 tg).toArray) (by rfl) (ex_mid rfl rfl ct Tryz.underlying23 rfl it16) rfl ?_
   simp only [nz]
   refine pl_call (d := some 45) (by rfl) (by go_simp; first | done | exact ⟨rfl, rfl⟩ | with_reducible rfl) rfl ?_
   refine (ca w5 vk _ HC.out HL).mono ?_
   rintro _ w6 ⟨rfl, v6, o6, g6⟩
   refine ⟨_, rfl, ?_⟩
   simp only [nz]
   refine pl_nil ?_
   have HC6 := HC.add o6 g6
   have c1 := (cell_block (j := 1) (g6.keep sX HX).1).1.trans c1
   clear HC o6 g6 c0 ct ca HX sX
   go_upto_region 13 with fail
   try simp only [Act.put]
   refine pl_begin ?_
   refine pl_t 47 (?_) (by rfl) ?_ rfl ?_
   rotate_left
   ·go_simp
    try with_reducible rfl
   simp only [nz]
   refine pl_t 48 (.string bd) (by rfl) (pl_one rfl rfl c1 Tryz.underlying9 rfl) rfl ?_
   simp only [nz]
   refine pl_call (d := some 49) (by rfl) (by go_simp; first | done | exact ⟨rfl, rfl⟩ | with_reducible rfl) rfl ?_
   refine (cE w6).mono ?_
   rintro _ w7 ⟨m2, rfl, mp2, mo2, mx2, mb2, hb7⟩
   refine ⟨_, rfl, ?_⟩
   simp only [nz]
   have hml2 : m2.ms.cells.length = 119 := mo2.ms.len
   have hm12 := mo2.ms.one
   have him2 : (Tryz.prog.info? 52).map (·.size) = some m2.ms.cells.length := by rw [hml2]; exact iszM
   obtain ⟨q2, hq2⟩ : ∃ q, Hid (m2.ms.cells = q) := ⟨_, hide rfl⟩
   rw [hq2.out] at hml2 hm12 him2
   simp only [hq2.out]
   refine pl_t 46 (?_) (by rfl) ?_ rfl ?_
   rotate_left
   ·go_simp
    try with_reducible rfl
   simp only [nz]
   refine pl_t 50 (?_) (by rfl) ?_ rfl ?_
   rotate_left
   ·go_simp
    try with_reducible rfl
   simp only [nz]
   refine pl_t 51 (?_) (by rfl) ?_ rfl ?_
   rotate_left
   ·go_simp
    try with_reducible rfl
   simp only [nz]
   refine pl_run (d := some 11) (v := .pointer (some ⟨w7.heap.size, 0, none⟩)) (w' := w7.alloc (.cells zc.toArray 52)) (by rfl) (ex_alloc rfl (hzr _)) rfl ?_
   simp only [nz]
   refine pl_store (w' := (w7.alloc (.cells zc.toArray 52)).setCells w7.heap.size 0 q2) (by rfl) (ex_put (cs := q2.toArray) rfl rfl rfl (there_newN _ _ _ (by simp [hzl, hml2])) (by simpa using him2) (all_one hm12)) rfl ?_
   refine pl_t 12 (?_) (by rfl) ?_ rfl ?_
   rotate_left
   ·go_simp
    try with_reducible rfl
   simp only [nz]
   refine pl_nil ?_
   obtain ⟨r8, hF, hF3, -⟩ := fresh_store w7 zc.toArray 52 q2 (by simp [hzl, hml2])
   have HC8 := (HC6.later hb7).later hF
   have mx8 := mx2.below hF
   have mb8 : m2.Bk (Clr O v6) := mb2.mono (fun b hb => clr_new HC6 hb)
   obtain ⟨A2, hA2⟩ : ∃ A, w7.heap.size = A := ⟨_, rfl⟩
   simp only [hA2] at r8 hF3 HC8 mx8 ⊢
   obtain ⟨w8, hw8⟩ : ∃ W, (w7.alloc (.cells zc.toArray 52)).setCells A2 0 q2 = W := ⟨_, rfl⟩
   rw [hw8] at r8 hF3 HC8 mx8 ⊢
   have sA2 : A2 < w8.heap.size := by omega
   clear hw8 hA2 hF hF3 hb7 mx2 mb2 HC6 cE c1
   by_cases e0 : pe2 = 0
   ·subst e0
    have hf2 := hfg rfl
    rw [← mp2] at hf2
    have HS2 := hide (small_fit hf2)
    have HCL : Hid ((C4 ++ (xs.take k).flatMap (newC N) ++ [g]).length + (ownC N m2.pure).length ≤ 1000000000) := hide (by
     have h1 := hf2.le N
     have h2 := HL2.out
     rw [List.length_append, List.length_singleton]
     omega)
    have cO := oclaims_any N m2 O v6 _ w8 HC8.out mo2 mx8 mb8 HCL.out HS2.out
    rw [hq2.out] at cO
    unfold addV at cO
    clear hf2 hfg
    go_upto_region 15 with fail
    try simp only [Act.put]
    refine pl_begin ?_
    refine pl_t 54 (?_) (by rfl) ?_ rfl ?_
    rotate_left
    ·go_simp
     try with_reducible rfl
    simp only [nz]
    refine pl_t 55 (.agg q2.toArray) (by rfl) (ex_mid rfl rfl r8 Tryz.underlying52 rfl him2) rfl ?_
    simp only [nz]
    refine pl_t 56 (?_) (by rfl) ?_ rfl ?_
    rotate_left
    ·go_simp
     try with_reducible rfl
    simp only [nz]
    refine pl_call (d := some 57) (by rfl) (by go_simp; first | done | exact ⟨rfl, rfl⟩ | with_reducible rfl) rfl ?_
    refine (cO).mono ?_
    rintro _ w9 ⟨rfl, v9, o9, g9⟩
    refine ⟨_, rfl, ?_⟩
    simp only [nz]
    refine pl_nil ?_
    have HD : Hid (CI W w9 O (.slice none 0 0) v9 (C4 ++ (xs.take (k + 1)).flatMap (newC N))) := hide (by
     rw [HT.out, HGN.out, if_pos rfl, ← mp2]
     have h9 := HC8.add o9 g9
     simp only [List.append_assoc, List.singleton_append] at h9 ⊢
     exact h9)
    clear cO HC8 o9 g9 mx8 mb8 r8 sA2 HT HGN hq2 him2 hml2 hm12 mo2 HS2 HCL hzr hyr hzl hyl iu hul hu1 it16 HL
    go_wp2_with fail
    go_roundw
    case rel => exact ⟨k + 1, v9, by omega, by go_num, HD⟩
    case measure => simp [intOf]; omega
   ·have e0' : (pe2 == 0) = false := by simp [e0]
    have HD : Hid (CI W w8 O (.slice none 0 0) v6 (C4 ++ (xs.take (k + 1)).flatMap (newC N))) := hide (by
     rw [HT.out, HGN.out, if_neg e0, ← List.append_assoc]
     exact HC8)
    clear HC8 mx8 mb8 r8 sA2 HT HGN hq2 him2 hml2 hm12 mo2 hzr hyr hzl hyl iu hul hu1 it16 HL hfg mp2
    go_wp2_with fail
    go_roundw
    case rel => exact ⟨k + 1, v6, by omega, by go_num, HD⟩
    case measure => simp [intOf]; omega
  ·obtain rfl : k = n := by omega
   have c0 := HK.out.out.c0
   have HE : Hid (ClaimsA w R (.returned vk) wr) := hide (by
    have h1 := HK.out.out
    rw [List.take_of_length_le (by rw [HN.out]; exact Nat.le_refl _), ← HR2.out] at h1
    have hl : R.length ≤ 1000000000 := by
     have h2 := news_len N xs
     have h3 := HC4l.out
     have h4 := HNL.out
     rw [HR2.out, List.length_append]
     rw [HN.out] at h2
     omega
    obtain ⟨x, e1, e2, e3⟩ := outc_rows h1 hl
    refine ⟨x, by rw [e1], e2, e3, ?_⟩
    have g := HK.out.grow
    have b3 := HB3.out
    exact ⟨g.os.trans b3.os, g.tape.trans b3.tape, g.output.trans b3.output, Nat.le_trans b3.size g.size, fun i hi => (g.block i (Nat.lt_of_lt_of_le hi b3.size) (by omega) (fun e => by cases e)).trans (b3.block i hi)⟩)
   clear HK ca cE hlt
   go_wp2_with fail
   go_ret
   exact HE.out
end Go.Proofs.YtcbpbkefggekmaaGreatDoor
namespace Go.Proofs.YtcbpbkefggekmaaGreatDoor.Rk
open Qs
open Go.RowKit
open Sha Tal
theorem _root_.Go.Proofs.YtcbpbkefggekmaaGreatDoor.Qs.KeysAt.apart {w : World} {p : Option Addr} {ds : List (List Int)} (h : KeysAt w p ds) (X : Nat) (s : ByteArray) (hX : w.cell? ⟨X, 0, none⟩ = some (.string s)) (vs : List Value) : KeysAt (w.setCells X 0 vs) p ds := by
  rcases h with h | ⟨K, a, cap, rfl, hK, hc, hl, hd, hr⟩
  · exact .inl h
  · have hKX : K ≠ X := fun e => by subst e; rw [hc] at hX; cases hX
    have hcK : w.rangeAt K 0 [.slice a ds.length cap] := fun j v hv => by
      cases j with
      | zero => simp at hv; subst hv; exact hc
      | succ j => simp at hv
    have hc' := World.rangeAt_setCells_apart hcK X 0 vs (.inl hKX) 0 _ rfl
    refine .inr ⟨K, a, cap, rfl, by rw [size_sets]; exact hK, hc', hl, hd, ?_⟩
    rcases hr with hr | ⟨D, rfl, hD, hr⟩
    · exact .inl hr
    · by_cases hz : ds = []
      · exact .inl hz
      · refine .inr ⟨D, rfl, by rw [size_sets]; exact hD, fun i d hi => ?_⟩
        have hDX : D ≠ X := fun e => by
          subst e
          obtain ⟨d0, dr, rfl⟩ := List.exists_cons_of_ne_nil hz
          have h0 := hr 0 d0 rfl
          obtain ⟨l0, _⟩ := hd d0 (List.mem_cons_self ..)
          have hc0 := get8 h0 (i := 0) (by omega)
          simp only [Nat.zero_mul, Nat.add_zero] at hc0
          rw [hc0] at hX
          cases hX
        exact World.rangeAt_setCells_apart (hr i d hi) X 0 vs (.inl hDX)
def seedR : ByteArray := { data := #[114] }
def rkL : List Value := [.string seedR, .int .i64 72]
theorem iszK : (Tryz.prog.info? 29).map (·.size) = some 2 := by kernel_rfl
set_option maxRecDepth 100000 in
set_option maxHeartbeats 2000000 in
theorem keys6_any (w : World) (hG : Glob w) :
   Calls Tryz.prog 9 #[] w fun e w' => ∃ p, e = .returned (.tuple #[.pointer p, .agg rkL.toArray]) ∧ p ≠ none ∧ KeysAt w' p (keysOf seedR 72) ∧ Below w.heap.size w w' := by
  have cr := fun w0 => refDerive_yes seedR 72 w0 (by omega) (by omega) (by decide)
  have hB1 : Below w.heap.size w (w.alloc (.cells #[.string ⟨#[]⟩, .int .i64 0] 29)) := (Below.refl _ _).alloc (Nat.le_refl _) _
  have hc1 : (w.alloc (.cells #[.string ⟨#[]⟩, .int .i64 0] 29)).cell? ⟨w.heap.size, 0, none⟩ = some (.string ⟨#[]⟩) := range_new w #[.string ⟨#[]⟩, .int .i64 0] 29 0 _ rfl
  have hT1 := there_new w #[.string ⟨#[]⟩, .int .i64 0] 29
  have hz1 : w.heap.size < (w.alloc (.cells #[.string ⟨#[]⟩, .int .i64 0] 29)).heap.size := by simp
  go_enter Tryz.func9, Tryz.ntmps9
  go_upto_region 1 with fail
  go_name_world w1 hw1
  rw [hw1] at hB1 hc1 hT1 hz1
  clear hw1
  have c1 := cr w1
  unfold seedR at c1
  go_wp2_with fail
  refine c1.mono ?_
  rintro e w2 ⟨rfl, hw2⟩
  have hB2 := hB1.trans (hw2.mono hB1.size)
  have hc2 := (hw2.cell (p := ⟨w.heap.size, 0, none⟩) hz1).trans hc1
  have hT2 := there_below hT1 hw2 hz1
  have hz2 := Nat.lt_of_lt_of_le hz1 hw2.size
  clear c1 cr hB1 hc1 hT1 hz1 hw2
  have hQ3 : (w2.alloc (.cells #[.string ⟨#[114]⟩, .int .i64 72] 29)).rangeAt w2.heap.size 0 [.string ⟨#[114]⟩, .int .i64 72] := range_new w2 #[.string ⟨#[114]⟩, .int .i64 72] 29
  have hF3 : Below w2.heap.size w2 (w2.alloc (.cells #[.string ⟨#[114]⟩, .int .i64 72] 29)) := (Below.refl _ _).alloc (Nat.le_refl _) _
  have hz3' : w2.heap.size < (w2.alloc (.cells #[.string ⟨#[114]⟩, .int .i64 72] 29)).heap.size := by simp
  go_upto_region 2 with fail
  go_name_world w3 hw3
  rw [hw3] at hQ3 hF3 hz3'
  have hz3 : w2.heap.size < w3.heap.size := by omega
  have hB3 := hB2.trans (hF3.mono hB2.size)
  have hc3 := (hF3.cell (p := ⟨w.heap.size, 0, none⟩) hz2).trans hc2
  have hT3 := there_below hT2 hF3 hz2
  have hzz3 := Nat.lt_of_lt_of_le hz2 hF3.size
  have hne : w2.heap.size ≠ w.heap.size := by omega
  clear hw3 hB2 hc2 hT2 hz2 hz3' hF3
  obtain ⟨X2, hX2⟩ : ∃ X, w2.heap.size = X := ⟨_, rfl⟩
  rw [hX2] at hQ3 hz3 hne ⊢
  clear hX2
  try simp only [Act.put]
  have hB4 := hB3.drew
  have hQ4 : w3.drew.rangeAt X2 0 [.string ⟨#[114]⟩, .int .i64 72] := (World.rangeAt_drew _ _ _ _).2 hQ3
  have hc4 : w3.drew.cell? ⟨w.heap.size, 0, none⟩ = some (.string ⟨#[]⟩) := hc3
  have hT4 : w3.drew.there w.heap.size 0 2 := (World.there_drew _ _ _ _).2 hT3
  have hz4 : X2 < w3.drew.heap.size := hz3
  have hzz4 : w.heap.size < w3.drew.heap.size := hzz3
  clear hB3 hQ3 hc3 hT3 hz3 hzz3
  obtain ⟨X, hX⟩ : ∃ X, Hid (w.heap.size = X) := ⟨_, hide rfl⟩
  rw [hX.out] at hc4 hT4 hzz4 hne ⊢
  obtain ⟨w5, hw5⟩ : ∃ w5, w3.drew = w5 := ⟨_, rfl⟩
  rw [hw5] at hB4 hQ4 hc4 hT4 hz4 hzz4
  refine hs_begin (S := (fun W : World => W.rangeAt X2 0 [.string ⟨#[114]⟩, .int .i64 72] ∧ Below w.heap.size w W)) 4 rfl (by kernel_rfl) ?_
  rw [hw5]
  clear hw5
  have hS : (fun W : World => W.rangeAt X2 0 [.string ⟨#[114]⟩, .int .i64 72] ∧ Below w.heap.size w W) w5 := ⟨hQ4, hB4⟩
  refine hs_t 1 9 (.agg #[.string ⟨#[114]⟩, .int .i64 72]) rfl (by kernel_rfl) (by kernel_rfl) (by kernel_rfl) (by rfl) (fun w' hw => exec_load rfl rfl (run_loadVar_mid (P := Tryz.prog) w' X2 0 29 [.string ⟨#[114]⟩, .int .i64 72] _ hw.1 Tryz.underlying29 rfl iszK)) hS rfl ?_
  simp only [nz]
  have cd := derive_yes seedR 72 w5 (hG.below hB4) (by omega) (by omega) (by decide)
  refine hs_call (i := 0) (d := some 8) rfl (by kernel_rfl) (by rfl) (by go_simp; first | done | exact ⟨rfl, rfl⟩ | with_reducible rfl) rfl ?_
  refine (cd).mono ?_
  rintro e' w6 ⟨p, rfl, hp, hk, hw6⟩
  have hS : (fun W : World => W.rangeAt X2 0 [.string ⟨#[114]⟩, .int .i64 72] ∧ Below w.heap.size w W) w6 := ⟨range_below hS.1 hw6 hz4, hS.2.trans (hw6.mono hS.2.size)⟩
  refine ⟨_, rfl, hS, ?_⟩
  simp only [nz]
  have hc6 := (hw6.cell (p := ⟨X, 0, none⟩) hzz4).trans hc4
  have hT6 := there_below hT4 hw6 hzz4
  have hk7 := hk.apart X _ hc6 [.string ⟨#[114]⟩, .int .i64 72]
  have hB7 : Below w.heap.size w (w6.setCells X 0 [.string ⟨#[114]⟩, .int .i64 72]) := below_sets (by rw [hX.out]; omega) _ 0 w6 hS.2
  have hrs := run_loadVar_mid (P := Tryz.prog) (w6.setCells X 0 [.string ⟨#[114]⟩, .int .i64 72]) X 0 29 [.string ⟨#[114]⟩, .int .i64 72] _ (World.rangeAt_setCells_same w6 X 0 [.string ⟨#[114]⟩, .int .i64 72] hT6) Tryz.underlying29 rfl iszK
  have hst := run_storeVar_mid (P := Tryz.prog) w6 X 0 29 #[.string ⟨#[114]⟩, .int .i64 72] hT6 iszK (by simp [Value.oneCell'])
  clear cd hk hw6
  refine hs_t 2 0 (?_) rfl (by kernel_rfl) (by kernel_rfl) (by kernel_rfl) (by rfl) ?_ hS rfl ?_
  rotate_left
  · intro w' hw
    go_simp
    try with_reducible rfl
  simp only [Act.put, List.setIfInBounds_toArray, List.set_cons_zero]
  refine hs_store (i := 3) (w' := (w6.setCells X 0 [.string ⟨#[114]⟩, .int .i64 72])) rfl (by kernel_rfl) (by rfl) (exec_store rfl rfl rfl hst) rfl ⟨World.rangeAt_setCells_apart hS.1 X 0 _ (.inl hne), hB7⟩ ?_
  refine hs_done (by kernel_rfl) ?_
  go_wp2_with fail
  exact bodyPost_ret (v := .tuple #[.pointer p, .agg #[.string ⟨#[114]⟩, .int .i64 72]]) (by simp [results, Tryz.results9, asAddr, hrs]) rfl ⟨p, rfl, hp, hk7, hB7⟩
end Go.Proofs.YtcbpbkefggekmaaGreatDoor.Rk
namespace Go.Proofs.YtcbpbkefggekmaaGreatDoor.Qs
open Go.RowKit
open Sha Tal
set_option maxRecDepth 20000 in
set_option maxHeartbeats 1000000 in
theorem kcheck_any (p : Option Addr) (ds : List (List Int)) (id : Int) (body : ByteArray) (t : List Int) (w : World) (hG : Glob w) (h : KeysAt w p ds) (hb : ds = [] ∨ body.size ≤ 100000) (ht : t.length = 16) :
  Calls Tryz.prog 25 #[.pointer p, .int .i64 id, .string body, .agg (v8 t).toArray] w fun e w' => e = .returned (.bool (checkOf (signOf ds id body) t)) ∧ Below w.heap.size w w' := by
 have hB0 : Below w.heap.size w (w.alloc (.cells (v8 t).toArray 23)) := (Below.refl _ _).alloc (Nat.le_refl _) _
 have hR0 := box_range w t 23
 have cs := ksign_any p ds id body _ (hG.below hB0) (h.below hB0) hb
 have hl := signOf_length ds id body
 unfold checkOf
 obtain ⟨r, hr⟩ : ∃ r, Hid ((signOf ds id body).1 = r) := ⟨_, hide rfl⟩
 obtain ⟨x, hx⟩ : ∃ x, Hid ((signOf ds id body).2 = x) := ⟨_, hide rfl⟩
 rw [hr.out, hx.out] at cs ⊢
 rw [hr.out] at hl
 obtain ⟨ct, hct⟩ : ∃ ct, Hid (v8 t = ct) := ⟨_, hide rfl⟩
 have hcl : ct.length = 16 := by rw [← hct.out, v8_length, ht]
 have heq := eql16 r t hl ht
 rw [hct.out] at hB0 hR0 cs heq ⊢
 clear hb
 go_enter Tryz.func25, Tryz.ntmps25
 go_wp2_with fail
 refine cs.mono ?_
 rintro e w1 ⟨rfl, hw1⟩
 clear cs
 have hB1 := hB0.trans (hw1.mono hB0.size)
 have hs1 := hw1.size
 simp only [World.size_alloc] at hs1
 have hR1 := range_below hR0 hw1 (by simp)
 have F := fresh_store w1 (Array.replicate 16 (.int .u8 0)) 23 (v8 r) (by rw [v8_length, hl]; rfl)
 have hN : (w1.alloc (.cells (Array.replicate 16 (.int .u8 0)) 23)).there w1.heap.size 0 (v8 r).toArray.size := by
  have e : (v8 r).toArray.size = 16 := by rw [List.size_toArray, v8_length, hl]
  rw [e]; exact (new_bytes w1 16 23).2
 have hi := info16 r hl
 have h1c := all_oneCell_toArray (v8_one r)
 go_upto_region 2 with (refine wpList_store_mid (op := ⟨none, .store 23 (.tmp 9) (.tmp 16), _, _, _, none⟩) rfl 23 _ _ rfl _ _ (v8 r).toArray rfl rfl hN hi h1c ?_)
 go_name_world w4 hw4
 rw [show (w1.alloc (.cells (Array.replicate 16 (.int .u8 0)) 23)).setCells w1.heap.size 0 (v8 r) = w4 from hw4] at F
 obtain ⟨hR4, hB4', hz4', _⟩ := F
 have hz4 : w1.heap.size < w4.heap.size := by omega
 clear hz4' hw4 hN h1c hw1 hR0
 have hB4 := hB1.trans (hB4'.mono hB1.size)
 have hR1' := range_below hR1 hB4' (by omega)
 have hl16 : (Tryz.prog.info? 23).map (·.size) = some (v8 r).length := by simpa using hi
 have hl16' : (Tryz.prog.info? 23).map (·.size) = some ct.length := by rw [hcl]; exact iszT
 try simp only [Act.put]
 clear hi
 clear hR1 hB4' hct
 by_cases hx0 : x = 0
 ·subst hx0
  refine wp_region_list ?_
  refine wpList_plain rfl fun K hK => ?_
  go_simp
  refine hK _ _ ?_
  clear hK K
  refine wpList_plain rfl fun K hK => ?_
  go_simp
  refine hK _ _ ?_
  clear hK K
  refine wpList_plain rfl fun K hK => ?_
  go_simp
  refine hK _ _ ?_
  clear hK K
  refine wpList_load_g (by rfl) 23 _ rfl _ _ rfl (v8 r) _ hR4 Tryz.underlying23 rfl hl16 ?_
  refine wpList_load_g (by rfl) 23 _ rfl _ _ rfl ct _ hR1' Tryz.underlying23 rfl hl16' ?_
  go_wp2
  go_ret
  exact ⟨by simp, hB4⟩
 ·have hx1 : (x == 0) = false := by simpa using hx0
  go_wp2
  go_ret
  exact ⟨by simp [hx0], hB4⟩
end Go.Proofs.YtcbpbkefggekmaaGreatDoor.Qs
namespace Go.Proofs.YtcbpbkefggekmaaGreatDoor
open Go.RowKit
open Sha Tal
set_option linter.unusedVariables false
set_option linter.unusedSimpArgs false
open Qs (KeysAt signOf checkOf)
def txX : ByteArray := { data := #[120] }
def rqX (tg : List Int) : Rq := ⟨1, 1, txX, tg⟩
def mX (b : Nat) (tg : List Int) : Mg := ⟨1, 1, 0, 0, 1, false, ⟨some ⟨b, 0, none⟩, 1, [rqX tg]⟩, Vt.zero, 0, 0, 0, ⟨none, 0, []⟩, ⟨none, 0, []⟩, zeros32, Vt.zero, ⟨none, 0, []⟩, ⟨#[]⟩, ⟨none, 0, []⟩⟩
def pX (tg : List Int) : Mp := ⟨1, 1, 0, 0, 1, false, [rqX tg], Vt.zero, 0, 0, 0, [], [], zeros32, Vt.zero, [], ⟨#[]⟩, []⟩
theorem mX_pure (b : Nat) (tg : List Int) : (mX b tg).pure = pX tg := rfl
theorem rqX_ok {tg : List Int} (h : tg.length = 16) (hb : ∀ z ∈ tg, 0 ≤ z ∧ z < 256) : (rqX tg).ok := ⟨h, hb, by show txX.size ≤ maxLen; decide, by show (-9223372036854775808 : Int) ≤ 1; decide, by show (1 : Int) ≤ 9223372036854775807; decide, by show (-9223372036854775808 : Int) ≤ 1; decide, by show (1 : Int) ≤ 9223372036854775807; decide⟩
theorem mX_ok (b : Nat) (tg : List Int) : (mX b tg).ok := ⟨Vt.zero_ok, Vt.zero_ok, zeros32_len, zeros32_byte⟩
theorem mX_at {b : Nat} {tg : List Int} {w : World} (h : tg.length = 16) (hb : ∀ z ∈ tg, 0 ≤ z ∧ z < 256) (hlt : b < w.heap.size) (hr : w.rangeAt b 0 (RqE.f (rqX tg))) : (mX b tg).At w :=
 mg0_at ⟨by show 1 ≤ maxLen; decide, fun y hy => by
  have : y = rqX tg := by simpa [mX] using hy
  rw [this]; exact rqX_ok h hb, .inr ⟨b, 0, rfl, hlt, by simpa [mX] using hr⟩⟩ hds_none RowsAt.none RowsAt.none RowsAt.none
theorem pX_good {tg : List Int} (h : tg.length = 16) (hb : ∀ z ∈ tg, 0 ≤ z ∧ z < 256) : (pX tg).good :=
 .inl ⟨rfl, ⟨⟨⟨Int.zero_le_ofNat 1, by show (1 : Int) ≤ 1048576; decide⟩, ⟨Int.zero_le_ofNat 1, by show (1 : Int) ≤ 1099511627776; decide⟩, (fun e => by cases e), ⟨(by show 1 ≤ 4; decide), (fun r hr => by
  have hr2 : r = rqX tg := by simpa [pX] using hr
  rw [hr2]
  exact ⟨⟨Int.zero_le_ofNat 1, by show (1 : Int) ≤ 8; decide⟩, ⟨Int.zero_le_ofNat 1, by show (1 : Int) ≤ 1099511627776; decide⟩, by show (txX.size : Int) ≤ 64; decide, h, hb⟩)⟩⟩, rfl⟩⟩
theorem pX_len {tg : List Int} (h : tg.length = 16) : (pX tg).bytes.length ≤ 1000 := by
 have e : (pX tg).bytes = putL 1 ++ (putL 1 ++ (putL 1 ++ (putL 2 ++ (putL 1 ++ putL 1 ++ (putL 1 ++ strL txX) ++ tg)))) := by
  have : (pX tg).bytes = putL 1 ++ (putL 1 ++ (putL 1 ++ (putL 2 ++ ((putL 1 ++ putL 1 ++ (putL 1 ++ strL txX) ++ tg) ++ [])))) := rfl
  rw [this, List.append_nil]
 have h1 := @putL_len 1 (by omega)
 have h2 := @putL_len 2 (by omega)
 have h3 : (strL txX).length = 1 := by rw [strL_length]; rfl
 rw [e]
 simp only [List.length_append]
 omega
def sX (tg : List Int) : ByteArray := strOf (pX tg).bytes
theorem sX_size {tg : List Int} (h : tg.length = 16) : (sX tg).size ≤ 1000 := by unfold sX; rw [strOf_sizeV]; exact pX_len h
theorem decX_X {tg : List Int} (h : tg.length = 16) (hb : ∀ z ∈ tg, 0 ≤ z ∧ z < 256) : decS (strL (sX tg)) = (pX tg, 0) := by
 unfold sX
 rw [strL_strOf (Mp.bytes_bs (pX_good h hb))]
 exact dec_back (pX_good h hb)
theorem claims_X {tg : List Int} (h : tg.length = 16) (hb : ∀ z ∈ tg, 0 ≤ z ∧ z < 256) : claimsC 4 (sX tg) = [⟨5, strOf (Rk.bodyL 1 1 txX), tg⟩] := by
 unfold claimsC
 rw [if_neg (by decide), decX_X h hb]
 rfl
theorem enc_X (b : Nat) (tg : List Int) (w : World) (h : tg.length = 16) (hb : ∀ z ∈ tg, 0 ≤ z ∧ z < 256) (hlt : b < w.heap.size) (hr : w.rangeAt b 0 (RqE.f (rqX tg))) :
  Calls Tryz.prog 22 #[.agg (mX b tg).ms.cells.toArray] w fun e w' => e = .returned (.tuple #[.string (sX tg), .int .i64 0]) ∧ Below w.heap.size w w' := by
 have hp : (mX b tg).pure.good := pX_good h hb
 have hg := pure_good hp
 have hy := bytes_pure (mX b tg) (by show (1 : Int) ≤ 1 ∧ (1 : Int) ≤ 8; decide)
 have hf : (mX b tg).Fine := fine_pure hp (by rw [hy]; have := pX_len h; rw [mX_pure]; omega)
 have c := enc_any (mX b tg) w (mX_ok b tg) (mX_at h hb hlt hr) (fun _ => hf)
 rw [hg, hy] at c
 exact c
set_option maxRecDepth 100000 in
theorem build_mX (b : Nat) (tg : List Int) (w : World) : (Instr.build 52 #[(0, .int .i64 1), (1, .int .i64 1), (4, .int .i64 1), (5, .agg #[.bool false, .slice (some ⟨b, 0, none⟩) 1 1])]).run Tryz.prog w = .ok (.agg (mX b tg).ms.cells.toArray) w :=
 build_msg _ _ w (by kernel_rfl)
theorem build_bX (b : Nat) (w : World) : (Instr.build 39 #[(1, .slice (some ⟨b, 0, none⟩) 1 1)]).run Tryz.prog w = .ok (.agg #[.bool false, .slice (some ⟨b, 0, none⟩) 1 1]) w := by kernel_rfl
theorem infoReqX : (Tryz.prog.info? 81).map (fun i => (i.zero, i.size, i.bytes)) = some (some (.agg ([Value.int .i64 0, .int .i64 0, .string ⟨#[]⟩] ++ v8 (List.replicate 16 0)).toArray), 19, 48) := by kernel_rfl
theorem run_bsReq (u : List Value) (hu : u.length = 19) (w : World) : (Instr.buildSlice 37 1 #[(0, .agg u.toArray)]).run Tryz.prog w = .ok (.slice (some ⟨w.heap.size, 0, none⟩) 1 1) (w.alloc (.cells u.toArray 81)) := by
 obtain ⟨i1, hi1, hiz, his, hib⟩ := info_parts infoReqX
 exact run_bs1 37 81 i1 _ u Tryz.underlying37 hi1 hiz (by rw [his, hu]) (by omega) (by omega) _
theorem tagX (ks : List (List Int)) (h : ks.length = 72) : Rk.tagV ks 4 1 1 txX = ((signOf ks 5 (strOf (Rk.bodyL 1 1 txX))).1, 0) := by
 unfold Rk.tagV
 rw [if_neg (by rw [h]; decide)]
 have e : (signOf ks 5 (strOf (Rk.bodyL 1 1 txX))).2 = 0 := by
  unfold signOf
  rw [if_neg (fun h0 => by rw [h0] at h; simp at h), if_neg (by rw [h]; decide)]
 show signOf ks 5 (strOf (Rk.bodyL 1 1 txX)) = _
 rw [← e]
set_option maxRecDepth 100000 in
set_option maxHeartbeats 4000000 in
theorem lives14_any (w : World) (hG : Glob w) : Calls Tryz.prog 8 #[] w fun e w' => e = .returned (.bool true) ∧ Below w.heap.size w w' := by
 obtain ⟨z19, hzl, hzr⟩ : ∃ z : List Value, z.length = 19 ∧ (∀ w : World, (zeroValue 81).run Tryz.prog w = .ok (.agg z.toArray) w) := ⟨[.int .i64 0, .int .i64 0, .string ⟨#[]⟩] ++ v8 (List.replicate 16 0), rfl, fun w => by kernel_rfl⟩
 obtain ⟨zk, hzkl, hzkr⟩ : ∃ z : List Value, z.length = 2 ∧ (∀ w : World, (zeroValue 29).run Tryz.prog w = .ok (.agg z.toArray) w) := ⟨[.string ⟨#[]⟩, .int .i64 0], rfl, fun w => by kernel_rfl⟩
 have cK := Rk.keys6_any w hG
 have hkl := Qs.keysOf_length Rk.seedR 72
 obtain ⟨ks, hks⟩ : ∃ k, Hid (Qs.keysOf Rk.seedR 72 = k) := ⟨_, hide rfl⟩
 rw [hks.out] at cK hkl
 have ik : (Tryz.prog.info? 29).map (·.size) = some Rk.rkL.length := by kernel_rfl
 have hkl2 : Rk.rkL.length = 2 := rfl
 have hk1 : ∀ v ∈ Rk.rkL, v.oneCell' = true := by decide
 obtain ⟨kq, hkq⟩ : ∃ k, Hid (Rk.rkL = k) := ⟨_, hide rfl⟩
 rw [hkq.out] at cK ik hkl2 hk1
 have hlt16 := Qs.signOf_length ks 5 (strOf (Rk.bodyL 1 1 txX))
 have htb := Qs.signOf_ok ks 5 (strOf (Rk.bodyL 1 1 txX))
 have htg := tagX ks hkl
 have cH0 := fun p tg w0 g k (h : tg.length = 16) => Qs.kcheck_any p ks 5 (strOf (Rk.bodyL 1 1 txX)) tg w0 g k (.inr (by rw [strOf_sizeV]; have := Rk.bodyL_length 1 1 txX (by decide) (by decide) (by decide); have h1 := @putL_len 1 (by omega); unfold Rk.bodyL textL; simp only [List.length_append, List.length_cons, List.length_nil, strL_length]; have : txX.size = 1 := rfl; have h2 := @putL_len (txX.size : Int) (by decide); omega)) h
 have hck : checkOf (signOf ks 5 (strOf (Rk.bodyL 1 1 txX))) (signOf ks 5 (strOf (Rk.bodyL 1 1 txX))).1 = true := by
  unfold checkOf
  have e2 : (signOf ks 5 (strOf (Rk.bodyL 1 1 txX))).2 = 0 := by
   unfold signOf
   rw [if_neg (fun h0 => by rw [h0] at hkl; simp at hkl), if_neg (by rw [hkl]; decide)]
  rw [e2]
  simp
 have hks1 : 0 < ks.length := by omega
 have cM0 := fun p w0 k g => Rk.make_yes p ks 4 1 1 txX w0 k g hks1 ⟨by decide, by decide, by decide, by decide, by decide⟩ (by rw [htg])
 rw [htg] at cM0
 obtain ⟨tg, htgd⟩ : ∃ t, Hid ((signOf ks 5 (strOf (Rk.bodyL 1 1 txX))).1 = t) := ⟨_, hide rfl⟩
 rw [htgd.out] at hlt16 htb hck cM0
 have cH1 := fun p w0 g k => cH0 p tg w0 g k hlt16
 rw [hck] at cH1
 have hcX := claims_X hlt16 htb
 have cC := fun w0 => claims_any 4 (sX tg) w0 (by have := sX_size hlt16; omega)
 rw [hcX] at cC
 unfold ClaimsA at cC
 have cE0 := fun b w0 h1 h2 => enc_X b tg w0 hlt16 htb h1 h2
 have hbm0 := fun b w0 => build_mX b tg w0
 have hul : (RqE.f (rqX tg)).length = 19 := RqE.len _ (rqX_ok hlt16 htb)
 have iu : (Tryz.prog.info? 81).map (·.size) = some (RqE.f (rqX tg)).length := by rw [hul]; kernel_rfl
 have hu1 := RqE.one (rqX tg)
 have it16 : (Tryz.prog.info? 23).map (·.size) = some (v8 tg).length := by rw [v8_length, hlt16]; exact iszT
 have cM0 : ∀ p w0, KeysAt w0 p ks → Glob w0 → Calls Tryz.prog 24 #[.pointer p, .int .i64 4, .int .i64 1, .int .i64 1, .string { data := #[120] }] w0 fun e w' => e = .returned (.tuple #[.agg (RqE.f (rqX tg)).toArray, .int .i64 0]) ∧ Below w0.heap.size w0 w' := cM0
 obtain ⟨u, hu⟩ : ∃ u, Hid (RqE.f (rqX tg) = u) := ⟨_, hide rfl⟩
 rw [hu.out] at hul iu hu1
 simp only [hu.out] at cM0 cE0
 obtain ⟨sx, hsx⟩ : ∃ s, Hid (sX tg = s) := ⟨_, hide rfl⟩
 simp only [hsx.out] at cC cE0
 obtain ⟨bd, hbd⟩ : ∃ s, Hid (strOf (Rk.bodyL 1 1 txX) = s) := ⟨_, hide rfl⟩
 simp only [hbd.out] at cC cH1
 have HG := hide hG
 clear hG cH0 hck hcX hu hsx hbd htb htg hkl hks1 hlt16 htgd hks hkq
 go_enter Tryz.func8, Tryz.ntmps8
 go_upto_region 1 with fail
 try simp only [Act.put]
 refine pl_begin ?_
 refine pl_call (d := some 9) (by rfl) (by go_simp; first | done | exact ⟨rfl, rfl⟩ | with_reducible rfl) rfl ?_
 refine (cK).mono ?_
 rintro _ w1 ⟨p, rfl, hp, hk, hb1⟩
 refine ⟨_, rfl, ?_⟩
 simp only [nz]
 refine pl_t 8 (?_) (by rfl) ?_ rfl ?_
 rotate_left
 ·go_simp
  try with_reducible rfl
 simp only [nz]
 refine pl_t 10 (?_) (by rfl) ?_ rfl ?_
 rotate_left
 ·go_simp
  try with_reducible rfl
 simp only [nz]
 refine pl_t 11 (?_) (by rfl) ?_ rfl ?_
 rotate_left
 ·go_simp
  try with_reducible rfl
 simp only [nz]
 refine pl_run (d := some 2) (v := .pointer (some ⟨w1.heap.size, 0, none⟩)) (w' := w1.alloc (.cells zk.toArray 29)) (by rfl) (ex_alloc rfl (hzkr _)) rfl ?_
 simp only [nz]
 refine pl_t 1 (?_) (by rfl) ?_ rfl ?_
 rotate_left
 ·go_simp
  try with_reducible rfl
 simp only [nz]
 refine pl_store (w' := (w1.alloc (.cells zk.toArray 29)).setCells w1.heap.size 0 kq) (by rfl) (ex_put (cs := kq.toArray) rfl rfl rfl (there_newN _ _ _ (by simp [hzkl, hkl2])) (by simpa using ik) (all_one hk1)) rfl ?_
 refine pl_nil ?_
 obtain ⟨-, hF, hF3, -⟩ := fresh_store w1 zk.toArray 29 kq (by simp [hzkl, hkl2])
 have hk := hk.below hF
 have B := hb1.trans (hF.mono hb1.size)
 obtain ⟨w2, hw2⟩ : ∃ W, (w1.alloc (.cells zk.toArray 29)).setCells w1.heap.size 0 kq = W := ⟨_, rfl⟩
 rw [hw2] at hk B ⊢
 clear hw2 hF hF3 hb1 cK hp ik hkl2 hk1 hzkr hzkl
 have cM := cM0 p w2 hk (HG.out.below B)
 go_upto_region 2 with fail
 try simp only [Act.put]
 refine pl_begin ?_
 refine pl_t 13 (?_) (by rfl) ?_ rfl ?_
 rotate_left
 ·go_simp
  try with_reducible rfl
 simp only [nz]
 refine pl_call (d := some 14) (by rfl) (by go_simp; first | done | exact ⟨rfl, rfl⟩ | with_reducible rfl) rfl ?_
 refine (cM).mono ?_
 rintro _ w3 ⟨rfl, hb3⟩
 refine ⟨_, rfl, ?_⟩
 simp only [nz]
 refine pl_t 12 (?_) (by rfl) ?_ rfl ?_
 rotate_left
 ·go_simp
  try with_reducible rfl
 simp only [nz]
 refine pl_t 15 (?_) (by rfl) ?_ rfl ?_
 rotate_left
 ·go_simp
  try with_reducible rfl
 simp only [nz]
 refine pl_t 16 (?_) (by rfl) ?_ rfl ?_
 rotate_left
 ·go_simp
  try with_reducible rfl
 simp only [nz]
 refine pl_run (d := some 3) (v := .pointer (some ⟨w3.heap.size, 0, none⟩)) (w' := w3.alloc (.cells z19.toArray 81)) (by rfl) (ex_alloc rfl (hzr _)) rfl ?_
 simp only [nz]
 refine pl_store (w' := (w3.alloc (.cells z19.toArray 81)).setCells w3.heap.size 0 u) (by rfl) (ex_put (cs := u.toArray) rfl rfl rfl (there_newN _ _ _ (by simp [hzl, hul])) (by simpa using iu) (all_one hu1)) rfl ?_
 refine pl_t 4 (?_) (by rfl) ?_ rfl ?_
 rotate_left
 ·go_simp
  try with_reducible rfl
 simp only [nz]
 refine pl_nil ?_
 obtain ⟨ru, hF, hF3, -⟩ := fresh_store w3 z19.toArray 81 u (by simp [hzl, hul])
 have hk := (hk.below hb3).below hF
 have B := B.trans ((hb3.trans (hF.mono hb3.size)).mono B.size)
 obtain ⟨X, hX⟩ : ∃ X, w3.heap.size = X := ⟨_, rfl⟩
 rw [hX] at ru hF3
 simp only [hX]
 obtain ⟨w4, hw4⟩ : ∃ W, (w3.alloc (.cells z19.toArray 81)).setCells X 0 u = W := ⟨_, rfl⟩
 rw [hX, hw4] at hk B
 rw [hw4] at ru hF3 ⊢
 have sX4 : X < w4.heap.size := by omega
 clear hw4 hX hF hF3 hb3 cM cM0
 have B5 : Below w4.heap.size w4 (w4.alloc (.cells u.toArray 81)) := (Below.refl _ _).alloc (Nat.le_refl _) _
 have r5 : (w4.alloc (.cells u.toArray 81)).rangeAt w4.heap.size 0 u := by simpa using range_new w4 u.toArray 81
 have cEn := cE0 w4.heap.size (w4.alloc (.cells u.toArray 81)) (by simp) r5
 obtain ⟨q, hq⟩ : ∃ q, Hid ((mX w4.heap.size tg).ms.cells = q) := ⟨_, hide rfl⟩
 have hbm := hbm0 w4.heap.size
 rw [hq.out] at cEn
 simp only [hq.out] at hbm
 clear hq cE0 hbm0 r5
 go_upto_region 3 with fail
 try simp only [Act.put]
 refine pl_begin ?_
 refine pl_t 18 (.agg u.toArray) (by rfl) (ex_mid rfl rfl ru Tryz.underlying81 rfl iu) rfl ?_
 simp only [nz]
 refine pl_run (d := some 19) (v := .slice (some ⟨w4.heap.size, 0, none⟩) 1 1) (w' := w4.alloc (.cells u.toArray 81)) (by rfl) (exec_bs1 rfl rfl (run_bsReq u hul _)) rfl ?_
 simp only [nz]
 refine pl_t 20 (.agg #[.bool false, .slice (some ⟨w4.heap.size, 0, none⟩) 1 1]) (by rfl) (ex_build (parts := [(1, .tmp 19)]) (vs := [(1, .slice (some ⟨w4.heap.size, 0, none⟩) 1 1)]) rfl (by first | with_reducible rfl | rfl | simp [Act.eval]) (build_bX _ _)) rfl ?_
 simp only [nz]
 refine pl_t 21 (.agg q.toArray) (by rfl) (ex_build (parts := [(0, .const (.int .i64 1)), (1, .const (.int .i64 1)), (4, .const (.int .i64 1)), (5, .tmp 20)]) (vs := [(0, .int .i64 1), (1, .int .i64 1), (4, .int .i64 1), (5, .agg #[.bool false, .slice (some ⟨w4.heap.size, 0, none⟩) 1 1])]) rfl (by first | with_reducible rfl | rfl | simp [Act.eval]) (hbm _)) rfl ?_
 simp only [nz]
 refine pl_call (d := some 22) (by rfl) (by go_simp; first | done | exact ⟨rfl, rfl⟩ | with_reducible rfl) rfl ?_
 refine (cEn).mono ?_
 rintro _ w6 ⟨rfl, hb6⟩
 refine ⟨_, rfl, ?_⟩
 simp only [nz]
 refine pl_t 17 (?_) (by rfl) ?_ rfl ?_
 rotate_left
 ·go_simp
  try with_reducible rfl
 simp only [nz]
 refine pl_t 23 (?_) (by rfl) ?_ rfl ?_
 rotate_left
 ·go_simp
  try with_reducible rfl
 simp only [nz]
 refine pl_t 24 (?_) (by rfl) ?_ rfl ?_
 rotate_left
 ·go_simp
  try with_reducible rfl
 simp only [nz]
 refine pl_t 5 (?_) (by rfl) ?_ rfl ?_
 rotate_left
 ·go_simp
  try with_reducible rfl
 simp only [nz]
 refine pl_t 6 (?_) (by rfl) ?_ rfl ?_
 rotate_left
 ·go_simp
  try with_reducible rfl
 simp only [nz]
 refine pl_nil ?_
 have hk := (hk.below B5).below hb6
 have B := B.trans ((B5.trans (hb6.mono B5.size)).mono B.size)
 clear B5 hb6 cEn hbm ru sX4 iu hu1
 go_upto_region 4 with fail
 try simp only [Act.put]
 refine pl_begin ?_
 refine pl_t 25 (?_) (by rfl) ?_ rfl ?_
 rotate_left
 ·go_simp
  try with_reducible rfl
 simp only [nz]
 refine pl_call (d := some 26) (by rfl) (by go_simp; first | done | exact ⟨rfl, rfl⟩ | with_reducible rfl) rfl ?_
 refine (cC w6).mono ?_
 rintro _ w7 ⟨x, rfl, hxs, hxa, hb7⟩
 refine ⟨_, rfl, ?_⟩
 simp only [nz]
 refine pl_t 7 (?_) (by rfl) ?_ rfl ?_
 rotate_left
 ·go_simp
  try with_reducible rfl
 simp only [nz]
 refine pl_nil ?_
 have hk := hk.below hb7
 have B := B.trans (hb7.mono B.size)
 obtain ⟨xa, xc, xs⟩ := x
 have hxs : xs = [⟨5, bd, tg⟩] := hxs
 subst hxs
 obtain ⟨b, off, hab0, sb, hre0⟩ := hxa.elem 0 (by simp)
 have hab : xa = some ⟨b, off, none⟩ := hab0
 have hre : w7.rangeAt b (off + 0 * 18) (.int .i64 5 :: .string bd :: v8 tg) := hre0
 clear hab0 hre0
 rw [Nat.zero_mul, Nat.add_zero] at hre
 clear hxa hb7
 subst hab
 simp only [Sl.val, List.length_singleton]
 go_upto_region 5 with fail
 have hdr : Below w7.heap.size w7 w7.drew := (Below.refl _ _).drew
 have hre := range_below hre hdr sb
 have hk := hk.below hdr
 have B := B.trans (hdr.mono B.size)
 have sb := Nat.lt_of_lt_of_le sb hdr.size
 refine hs_begin (S := (Below w7.drew.heap.size w7.drew)) 31 rfl (by kernel_rfl) ?_
 obtain ⟨w8, hw8⟩ : ∃ W, w7.drew = W := ⟨_, rfl⟩
 rw [hw8] at hre hk B sb ⊢
 clear hdr hw8
 have hS : (Below w8.heap.size w8) w8 := Below.refl _ _
 have c0 : w8.cell? ⟨b, off, none⟩ = some (.int .i64 5) := hre 0 _ rfl
 have c1 : w8.cell? ⟨b, off + 1, none⟩ = some (.string bd) := hre 1 _ rfl
 have ct : w8.rangeAt b (off + 2) (v8 tg) := fun j y hy => by
  have := hre (j + 2) y hy
  rw [show off + (j + 2) = off + 2 + j by omega] at this
  exact this
 have cH := fun (_ : World) => cH1 p w8 (HG.out.below B) hk
 refine hs_t 0 27 (?_) rfl (by kernel_rfl) (by kernel_rfl) (by kernel_rfl) (by rfl) ?_ hS rfl ?_
 rotate_left
 ·intro w' hw
  go_simp
  try with_reducible rfl
 simp only [nz]
 refine hs_t 1 28 (.bool true) rfl (by kernel_rfl) (by kernel_rfl) (by kernel_rfl) (by rfl) (fun w' hw => by go_simp) hS rfl ?_
 simp only [nz]
 refine hs_t 2 29 (?_) rfl (by kernel_rfl) (by kernel_rfl) (by kernel_rfl) (by rfl) ?_ hS rfl ?_
 rotate_left
 ·intro w' hw
  go_simp
  try with_reducible rfl
 simp only [nz]
 refine hs_t 3 30 (?_) rfl (by kernel_rfl) (by kernel_rfl) (by kernel_rfl) (by rfl) ?_ hS rfl ?_
 rotate_left
 ·intro w' hw
  go_simp
  try with_reducible rfl
 simp only [nz]
 refine hs_t 4 31 (.bool true) rfl (by kernel_rfl) (by kernel_rfl) (by kernel_rfl) (by rfl) (fun w' hw => by go_simp) hS rfl ?_
 simp only [nz]
 refine hs_t 5 32 (?_) rfl (by kernel_rfl) (by kernel_rfl) (by kernel_rfl) (by rfl) ?_ hS rfl ?_
 rotate_left
 ·intro w' hw
  go_simp
  try with_reducible rfl
 simp only [nz]
 refine hs_t 6 33 (?_) rfl (by kernel_rfl) (by kernel_rfl) (by kernel_rfl) (by rfl) ?_ hS rfl ?_
 rotate_left
 ·intro w' hw
  go_simp
  try with_reducible rfl
 simp only [nz]
 refine hs_t 7 34 (?_) rfl (by kernel_rfl) (by kernel_rfl) (by kernel_rfl) (by rfl) ?_ hS rfl ?_
 rotate_left
 ·intro w' hw
  go_simp
  try with_reducible rfl
 simp only [nz]
 refine hs_t 8 35 (?_) rfl (by kernel_rfl) (by kernel_rfl) (by kernel_rfl) (by rfl) ?_ hS rfl ?_
 rotate_left
 ·intro w' hw
  go_simp
  try with_reducible rfl
 simp only [nz]
 refine hs_t 9 36 (.bool true) rfl (by kernel_rfl) (by kernel_rfl) (by kernel_rfl) (by rfl) (fun w' hw => by go_simp) hS rfl ?_
 simp only [nz]
 refine hs_t 10 37 (?_) rfl (by kernel_rfl) (by kernel_rfl) (by kernel_rfl) (by rfl) ?_ hS rfl ?_
 rotate_left
 ·intro w' hw
  go_simp
  try with_reducible rfl
 simp only [nz]
 refine hs_t 11 38 (?_) rfl (by kernel_rfl) (by kernel_rfl) (by kernel_rfl) (by rfl) ?_ hS rfl ?_
 rotate_left
 ·intro w' hw
  go_simp
  try with_reducible rfl
 simp only [nz]
 refine hs_t 12 39 (?_) rfl (by kernel_rfl) (by kernel_rfl) (by kernel_rfl) (by rfl) ?_ hS rfl ?_
 rotate_left
 ·intro w' hw
  go_simp
  try with_reducible rfl
 simp only [nz]
 refine hs_t 13 40 (.pointer (some ⟨b, off, none⟩)) rfl (by kernel_rfl) (by kernel_rfl) (by kernel_rfl) (by rfl) (fun w' hw => by go_simp <;> (try simp [*])) hS rfl ?_
 simp only [nz]
 refine hs_t 14 41 (.pointer (some ⟨b, off, none⟩)) rfl (by kernel_rfl) (by kernel_rfl) (by kernel_rfl) (by rfl) (fun w' hw => by go_simp <;> (try simp [*])) hS rfl ?_
 simp only [nz]
 refine hs_t 15 42 (.int .i64 5) rfl (by kernel_rfl) (by kernel_rfl) (by kernel_rfl) (by rfl) (fun w' hw => pl_one rfl rfl ((hw.cell (p := ⟨b, off, none⟩) sb).trans c0) Tryz.underlying3 rfl) hS rfl ?_
 simp only [nz]
 refine hs_t 16 43 (.bool true) rfl (by kernel_rfl) (by kernel_rfl) (by kernel_rfl) (by rfl) (fun w' hw => by go_simp) hS rfl ?_
 simp only [nz]
 refine hs_t 17 44 (?_) rfl (by kernel_rfl) (by kernel_rfl) (by kernel_rfl) (by rfl) ?_ hS rfl ?_
 rotate_left
 ·intro w' hw
  go_simp
  try with_reducible rfl
 simp only [nz]
 refine hs_t 18 45 (?_) rfl (by kernel_rfl) (by kernel_rfl) (by kernel_rfl) (by rfl) ?_ hS rfl ?_
 rotate_left
 ·intro w' hw
  go_simp
  try with_reducible rfl
 simp only [nz]
 refine hs_t 19 46 (?_) rfl (by kernel_rfl) (by kernel_rfl) (by kernel_rfl) (by rfl) ?_ hS rfl ?_
 rotate_left
 ·intro w' hw
  go_simp
  try with_reducible rfl
 simp only [nz]
 refine hs_t 20 47 (?_) rfl (by kernel_rfl) (by kernel_rfl) (by kernel_rfl) (by rfl) ?_ hS rfl ?_
 rotate_left
 ·intro w' hw
  go_simp
  try with_reducible rfl
 simp only [nz]
 refine hs_t 21 48 (.pointer (some ⟨b, off, none⟩)) rfl (by kernel_rfl) (by kernel_rfl) (by kernel_rfl) (by rfl) (fun w' hw => by go_simp <;> (try simp [*])) hS rfl ?_
 simp only [nz]
 refine hs_t 22 49 (.pointer (some ⟨b, off + 1, none⟩)) rfl (by kernel_rfl) (by kernel_rfl) (by kernel_rfl) (by rfl) (fun w' hw => by go_simp <;> (try simp [*])) hS rfl ?_
 simp only [nz]
 refine hs_t 23 50 (.string bd) rfl (by kernel_rfl) (by kernel_rfl) (by kernel_rfl) (by rfl) (fun w' hw => pl_one rfl rfl ((hw.cell (p := ⟨b, off + 1, none⟩) sb).trans c1) Tryz.underlying9 rfl) hS rfl ?_
 simp only [nz]
 refine hs_t 24 51 (?_) rfl (by kernel_rfl) (by kernel_rfl) (by kernel_rfl) (by rfl) ?_ hS rfl ?_
 rotate_left
 ·intro w' hw
  go_simp
  try with_reducible rfl
 simp only [nz]
 refine hs_t 25 52 (.pointer (some ⟨b, off, none⟩)) rfl (by kernel_rfl) (by kernel_rfl) (by kernel_rfl) (by rfl) (fun w' hw => by go_simp <;> (try simp [*])) hS rfl ?_
 simp only [nz]
 refine hs_t 26 53 (.pointer (some ⟨b, off + 2, none⟩)) rfl (by kernel_rfl) (by kernel_rfl) (by kernel_rfl) (by rfl) (fun w' hw => by go_simp <;> (try simp [*])) hS rfl ?_
 simp only [nz]
 refine hs_t 27 54 (.agg (v8 tg).toArray) rfl (by kernel_rfl) (by kernel_rfl) (by kernel_rfl) (by rfl) (fun w' hw => ex_mid rfl rfl (range_below ct hw sb) Tryz.underlying23 rfl it16) hS rfl ?_
 simp only [nz]
 refine hs_call (i := 28) (d := some 55) rfl (by kernel_rfl) (by rfl) (by go_simp; first | done | exact ⟨rfl, rfl⟩ | with_reducible rfl) rfl ?_
 refine (cH w8).mono ?_
 rintro _ w9 ⟨rfl, hb9⟩
 have hS : (Below w8.heap.size w8) w9 := hS.trans (hb9.mono hS.size)
 refine ⟨_, rfl, hS, ?_⟩
 simp only [nz]
 refine hs_t 29 56 (?_) rfl (by kernel_rfl) (by kernel_rfl) (by kernel_rfl) (by rfl) ?_ hS rfl ?_
 rotate_left
 ·intro w' hw
  go_simp
  try with_reducible rfl
 simp only [nz]
 refine hs_t 30 0 (?_) rfl (by kernel_rfl) (by kernel_rfl) (by kernel_rfl) (by rfl) ?_ hS rfl ?_
 rotate_left
 ·intro w' hw
  go_simp
  try with_reducible rfl
 simp only [nz]
 refine hs_done (by kernel_rfl) ?_
 have HB := hide (B.trans (hS.mono B.size))
 clear hre hk B sb c0 c1 ct cH cH1
 go_wp2_with fail
 go_ret
 exact ⟨rfl, HB.out⟩
theorem ex_bin {P : Program} {o : Oper} {a : Act} {w : World} {op : BinOp} {t t2 : TypeId} {x y : Operand} {u v : Array Value} {r : Value} (ho : o.op = .binOp op t x y t2) (hx : a.eval x = .agg u) (hy : a.eval y = .agg v) (hm : P.eqGuardType P.depth t = false) (hr : (binOp op t (.agg u) (.agg v)).run P w = .ok r w) : (execOp a.eval o).run P w = .ok (.value r) w := by
 unfold execOp
 simp only [ho, hx, hy, Sem.run_bind, run_eqGuard_agg w op t x y u v hm, Result.andThen_ok, hr, Sem.run_pure]
theorem Ev_eql (x : Ev) (hx : x.ok) (w : World) : (binOp .eql 25 (.agg x.cells.toArray) (.agg x.cells.toArray)).run Tryz.prog w = .ok (.bool true) w := by
 rw [run_eql_struct, Ev.eq10 x x hx hx w, Ev.B_iff.2 rfl]; rfl
theorem ev_in {e : Ev} (h : e.ok) (h0 : 0 ≤ e.n) (h1 : e.n ≤ 64) (hs : e.s.size ≤ 20000) : evOk e := ⟨⟨h0, h1⟩, by omega, h.tl, h.tb⟩
theorem getE_more {e : Ev} (h : evOk e) (q : List Int) : getE (evL e ++ q) = if doneE q 0 = 0 then (e, 0) else (evZ, doneE q 0) := by
 have hb := en_codec.back e q h
 have h2 : evS (evL e ++ q) 0 = (e, q, 0) := by
  have e1 : (enS (evL e ++ q, 0, false)).1 = (evS (evL e ++ q) 0).1 := rfl
  have e2 : (enS (evL e ++ q, 0, false)).2 = ((evS (evL e ++ q) 0).2.1, (evS (evL e ++ q) 0).2.2, false) := rfl
  rw [hb] at e1 e2
  simp only [Prod.mk.injEq, and_true] at e2
  exact Prod.ext e1.symm (Prod.ext e2.1.symm e2.2.symm)
 unfold getE
 rw [h2]
theorem evL_len2 {e : Ev} (h : e.ok) : (evL e).length ≤ e.s.size + 34 := by
 have h1 := putL_len h.nh
 have h2 := @putL_len (e.s.size : Int) (by have := h.sl; unfold maxLen at this; omega)
 have h3 := h.tl
 unfold evL textL
 simp only [List.length_append, strL_length]
 omega
theorem evL_bs {e : Ev} (h : e.ok) : Bs (evL e) := fun z hz => by
 unfold evL textL at hz
 simp only [List.mem_append] at hz
 have h1 := h.nh
 rcases hz with hz | (hz | hz) | hz
 ·exact putL_byte _ (by omega) z hz
 ·exact putL_byte _ (by have := h.sl; unfold maxLen at this; omega) z hz
 ·exact strL_byte _ z hz
 ·exact h.tb z hz
theorem strL_app (a b : ByteArray) : strL (a ++ b) = strL a ++ strL b := by
 unfold strL
 rw [ByteArray.data_append]
 simp
theorem size_app (a b : ByteArray) : (a ++ b).size = a.size + b.size := ByteArray.size_append
theorem done_nil (q : List Int) : doneE q 0 = 0 ↔ q = [] := by
 unfold doneE
 cases q <;> simp
theorem nil_tl : (⟨#[]⟩ : ByteArray).toList = [] := by rw [ByteArray.toList_eq]
theorem strL_nil (s : ByteArray) : strL s = [] ↔ s = ⟨#[]⟩ := by
 constructor
 ·intro h
  have h1 : (strL s).length = 0 := by rw [h]; rfl
  rw [strL_length] at h1
  exact ByteArray.ext (Array.eq_empty_of_size_eq_zero h1)
 ·intro h; rw [h]; rfl
set_option maxRecDepth 100000 in
set_option maxHeartbeats 4000000 in
theorem envelopeBack_walk (e : Ev) (more : ByteArray) (w : World) (hG : Glob w) (he : e.ok) : Calls Tryz.prog 7 #[.agg e.cells.toArray, .string more] w fun r w' => r = .returned (.bool true) ∧ Below w.heap.size w w' := by
  obtain ⟨zc, hzl, hzr⟩ : ∃ z : List Value, z.length = 18 ∧ (∀ w : World, (zeroValue 25).run Tryz.prog w = .ok (.agg z.toArray) w) := ⟨_, rfl, zero_e0⟩
  have HG := hide hG
  have hql : e.cells.length = 18 := EvE.len e he
  have hqi : (Tryz.prog.info? 25).map (·.size) = some e.cells.length := by rw [hql]; exact isz18
  have hq1 := EvE.one e
  have hq1 : ∀ v ∈ e.cells, v.oneCell' = true := hq1
  have heq := fun w0 => Ev_eql e he w0
  obtain ⟨B, rA, sA⟩ := boxed_new w e.cells 25
  have c0 : (w.alloc (.cells e.cells.toArray 25)).cell? ⟨w.heap.size, 0, none⟩ = some (.int .i64 e.n) := by have := rA 0 _ rfl; rwa [Nat.zero_add] at this
  have c1 : (w.alloc (.cells e.cells.toArray 25)).cell? ⟨w.heap.size, 1, none⟩ = some (.string e.s) := by have := rA 1 _ rfl; rwa [Nat.zero_add] at this
  have cP0 := fun (h : e.s.size ≤ 20000) w0 => eput_any none 0 [] e w0 (nil_row w0) (by simp) he (by omega)
  have cG := fun sb h w0 => eget_any sb h w0
  have HEO := hide he
  have hbl := evL_bs he
  have hll := evL_len2 he
  obtain ⟨z, hz⟩ : ∃ z, e.s.size = z := ⟨_, rfl⟩
  obtain ⟨zm, hm⟩ : ∃ z, more.size = z := ⟨_, rfl⟩
  have HZ0 := hide hz
  have HM := hide hm
  rw [hz] at cP0 hll
  have HIN : Hid (0 ≤ e.n → e.n ≤ 64 → z ≤ 20000 → evOk e) := hide (fun a b c => ev_in he a b (by omega))
  obtain ⟨en, hen⟩ : ∃ x, e.n = x := ⟨_, rfl⟩
  obtain ⟨es, hes⟩ : ∃ x, e.s = x := ⟨_, rfl⟩
  rw [hen] at c0 HIN
  rw [hes] at c1 HZ0
  have HZ := HZ0
  obtain ⟨q, hq⟩ : ∃ q, Hid (e.cells = q) := ⟨_, hide rfl⟩
  rw [hq.out] at hql hqi hq1 B rA sA c0 c1 ⊢
  simp only [hq.out] at cP0 heq
  clear hG hz hm hen hes he HZ0
  go_enter Tryz.func7, Tryz.ntmps7
  go_upto_region 1 with fail
  obtain ⟨W, hW⟩ : ∃ W, w.alloc (.cells q.toArray 25) = W := ⟨_, rfl⟩
  rw [hW] at B rA sA c0 c1 ⊢
  clear hW
  obtain ⟨A, hA⟩ : ∃ A, w.heap.size = A := ⟨_, rfl⟩
  rw [hA] at rA sA c0 c1
  have HA := hide hA
  simp only [hA]
  clear hA
  by_cases k0 : z ≤ 20000
  rotate_left
  · have k0' : (20000 : Int) < z := by omega
    try simp only [Act.put]
    refine pl_begin ?_
    refine pl_t 10 (?_) (by rfl) ?_ rfl ?_
    rotate_left
    · go_simp
      try with_reducible rfl
    simp only [nz]
    refine pl_t 11 (.string es) (by rfl) (pl_one rfl rfl c1 Tryz.underlying9 rfl) rfl ?_
    simp only [nz]
    refine pl_t 12 (.int .i64 (z : Int)) (by rfl) (by go_simp <;> (try simp [HZ.out])) rfl ?_
    simp only [nz]
    refine pl_t 13 (.bool true) (by rfl) (by go_simp <;> (try simp [*])) rfl ?_
    simp only [nz]
    refine pl_t 14 (?_) (by rfl) ?_ rfl ?_
    rotate_left
    · go_simp
      try with_reducible rfl
    simp only [nz]
    refine pl_skip (d := some 15) (by rfl) rfl ?_
    simp only [nz]
    refine pl_skip (d := some 16) (by rfl) rfl ?_
    simp only [nz]
    refine pl_skip (d := some 17) (by rfl) rfl ?_
    simp only [nz]
    refine pl_t 18 (?_) (by rfl) ?_ rfl ?_
    rotate_left
    · go_simp
      try with_reducible rfl
    simp only [nz]
    refine pl_t 19 (?_) (by rfl) ?_ rfl ?_
    rotate_left
    · go_simp
      try with_reducible rfl
    simp only [nz]
    refine pl_skip (d := some 20) (by rfl) rfl ?_
    simp only [nz]
    refine pl_skip (d := some 21) (by rfl) rfl ?_
    simp only [nz]
    refine pl_skip (d := some 22) (by rfl) rfl ?_
    simp only [nz]
    refine pl_t 23 (?_) (by rfl) ?_ rfl ?_
    rotate_left
    · go_simp
      try with_reducible rfl
    simp only [nz]
    refine pl_t 24 (?_) (by rfl) ?_ rfl ?_
    rotate_left
    · go_simp
      try with_reducible rfl
    simp only [nz]
    refine pl_skip (d := some 25) (by rfl) rfl ?_
    simp only [nz]
    refine pl_skip (d := some 26) (by rfl) rfl ?_
    simp only [nz]
    refine pl_skip (d := some 27) (by rfl) rfl ?_
    simp only [nz]
    refine pl_t 28 (?_) (by rfl) ?_ rfl ?_
    rotate_left
    · go_simp
      try with_reducible rfl
    simp only [nz]
    refine pl_nil ?_
    clear c0 c1 rA cP0 cG hbl k0 k0'
    go_upto_region 2 with fail
    try simp only [Act.put]
    refine pl_begin ?_
    refine pl_call (d := some 29) (by rfl) (by go_simp; first | done | exact ⟨rfl, rfl⟩ | with_reducible rfl) rfl ?_
    refine (lives14_any W (HG.out.below B)).mono ?_
    rintro _ wL ⟨rfl, hbL⟩
    refine ⟨_, rfl, ?_⟩
    simp only [nz]
    refine pl_t 4 (?_) (by rfl) ?_ rfl ?_
    rotate_left
    · go_simp
      try with_reducible rfl
    simp only [nz]
    refine pl_nil ?_
    have HB := hide (B.trans (hbL.mono B.size))
    go_wp2_with fail
    go_ret
    exact ⟨rfl, HB.out⟩
  have k0' : ¬ (20000 : Int) < z := by omega
  by_cases k1 : zm ≤ 2000
  rotate_left
  · have k1' : (2000 : Int) < zm := by omega
    try simp only [Act.put]
    refine pl_begin ?_
    refine pl_t 10 (?_) (by rfl) ?_ rfl ?_
    rotate_left
    · go_simp
      try with_reducible rfl
    simp only [nz]
    refine pl_t 11 (.string es) (by rfl) (pl_one rfl rfl c1 Tryz.underlying9 rfl) rfl ?_
    simp only [nz]
    refine pl_t 12 (.int .i64 (z : Int)) (by rfl) (by go_simp <;> (try simp [HZ.out])) rfl ?_
    simp only [nz]
    refine pl_t 13 (.bool false) (by rfl) (by go_simp <;> (try simp [*])) rfl ?_
    simp only [nz]
    refine pl_t 14 (?_) (by rfl) ?_ rfl ?_
    rotate_left
    · go_simp
      try with_reducible rfl
    simp only [nz]
    refine pl_t 15 (?_) (by rfl) ?_ rfl ?_
    rotate_left
    · go_simp
      try with_reducible rfl
    simp only [nz]
    refine pl_t 16 (.int .i64 (zm : Int)) (by rfl) (by go_simp <;> (try simp [HM.out])) rfl ?_
    simp only [nz]
    refine pl_t 17 (.bool true) (by rfl) (by go_simp <;> (try simp [*])) rfl ?_
    simp only [nz]
    refine pl_t 18 (?_) (by rfl) ?_ rfl ?_
    rotate_left
    · go_simp
      try with_reducible rfl
    simp only [nz]
    refine pl_t 19 (?_) (by rfl) ?_ rfl ?_
    rotate_left
    · go_simp
      try with_reducible rfl
    simp only [nz]
    refine pl_skip (d := some 20) (by rfl) rfl ?_
    simp only [nz]
    refine pl_skip (d := some 21) (by rfl) rfl ?_
    simp only [nz]
    refine pl_skip (d := some 22) (by rfl) rfl ?_
    simp only [nz]
    refine pl_t 23 (?_) (by rfl) ?_ rfl ?_
    rotate_left
    · go_simp
      try with_reducible rfl
    simp only [nz]
    refine pl_t 24 (?_) (by rfl) ?_ rfl ?_
    rotate_left
    · go_simp
      try with_reducible rfl
    simp only [nz]
    refine pl_skip (d := some 25) (by rfl) rfl ?_
    simp only [nz]
    refine pl_skip (d := some 26) (by rfl) rfl ?_
    simp only [nz]
    refine pl_skip (d := some 27) (by rfl) rfl ?_
    simp only [nz]
    refine pl_t 28 (?_) (by rfl) ?_ rfl ?_
    rotate_left
    · go_simp
      try with_reducible rfl
    simp only [nz]
    refine pl_nil ?_
    clear c0 c1 rA cP0 cG hbl k0 k0' k1 k1'
    go_upto_region 2 with fail
    try simp only [Act.put]
    refine pl_begin ?_
    refine pl_call (d := some 29) (by rfl) (by go_simp; first | done | exact ⟨rfl, rfl⟩ | with_reducible rfl) rfl ?_
    refine (lives14_any W (HG.out.below B)).mono ?_
    rintro _ wL ⟨rfl, hbL⟩
    refine ⟨_, rfl, ?_⟩
    simp only [nz]
    refine pl_t 4 (?_) (by rfl) ?_ rfl ?_
    rotate_left
    · go_simp
      try with_reducible rfl
    simp only [nz]
    refine pl_nil ?_
    have HB := hide (B.trans (hbL.mono B.size))
    go_wp2_with fail
    go_ret
    exact ⟨rfl, HB.out⟩
  have k1' : ¬ (2000 : Int) < zm := by omega
  by_cases k2 : en < 0
  · have k2' := k2
    try simp only [Act.put]
    refine pl_begin ?_
    refine pl_t 10 (?_) (by rfl) ?_ rfl ?_
    rotate_left
    · go_simp
      try with_reducible rfl
    simp only [nz]
    refine pl_t 11 (.string es) (by rfl) (pl_one rfl rfl c1 Tryz.underlying9 rfl) rfl ?_
    simp only [nz]
    refine pl_t 12 (.int .i64 (z : Int)) (by rfl) (by go_simp <;> (try simp [HZ.out])) rfl ?_
    simp only [nz]
    refine pl_t 13 (.bool false) (by rfl) (by go_simp <;> (try simp [*])) rfl ?_
    simp only [nz]
    refine pl_t 14 (?_) (by rfl) ?_ rfl ?_
    rotate_left
    · go_simp
      try with_reducible rfl
    simp only [nz]
    refine pl_t 15 (?_) (by rfl) ?_ rfl ?_
    rotate_left
    · go_simp
      try with_reducible rfl
    simp only [nz]
    refine pl_t 16 (.int .i64 (zm : Int)) (by rfl) (by go_simp <;> (try simp [HM.out])) rfl ?_
    simp only [nz]
    refine pl_t 17 (.bool false) (by rfl) (by go_simp <;> (try simp [*])) rfl ?_
    simp only [nz]
    refine pl_t 18 (?_) (by rfl) ?_ rfl ?_
    rotate_left
    · go_simp
      try with_reducible rfl
    simp only [nz]
    refine pl_t 19 (?_) (by rfl) ?_ rfl ?_
    rotate_left
    · go_simp
      try with_reducible rfl
    simp only [nz]
    refine pl_t 20 (?_) (by rfl) ?_ rfl ?_
    rotate_left
    · go_simp
      try with_reducible rfl
    simp only [nz]
    refine pl_t 21 (.int .i64 en) (by rfl) (pl_one rfl rfl c0 Tryz.underlying3 rfl) rfl ?_
    simp only [nz]
    refine pl_t 22 (.bool true) (by rfl) (by go_simp <;> (try simp [*])) rfl ?_
    simp only [nz]
    refine pl_t 23 (?_) (by rfl) ?_ rfl ?_
    rotate_left
    · go_simp
      try with_reducible rfl
    simp only [nz]
    refine pl_t 24 (?_) (by rfl) ?_ rfl ?_
    rotate_left
    · go_simp
      try with_reducible rfl
    simp only [nz]
    refine pl_skip (d := some 25) (by rfl) rfl ?_
    simp only [nz]
    refine pl_skip (d := some 26) (by rfl) rfl ?_
    simp only [nz]
    refine pl_skip (d := some 27) (by rfl) rfl ?_
    simp only [nz]
    refine pl_t 28 (?_) (by rfl) ?_ rfl ?_
    rotate_left
    · go_simp
      try with_reducible rfl
    simp only [nz]
    refine pl_nil ?_
    clear c0 c1 rA cP0 cG hbl k0 k0' k1 k1' k2 k2'
    go_upto_region 2 with fail
    try simp only [Act.put]
    refine pl_begin ?_
    refine pl_call (d := some 29) (by rfl) (by go_simp; first | done | exact ⟨rfl, rfl⟩ | with_reducible rfl) rfl ?_
    refine (lives14_any W (HG.out.below B)).mono ?_
    rintro _ wL ⟨rfl, hbL⟩
    refine ⟨_, rfl, ?_⟩
    simp only [nz]
    refine pl_t 4 (?_) (by rfl) ?_ rfl ?_
    rotate_left
    · go_simp
      try with_reducible rfl
    simp only [nz]
    refine pl_nil ?_
    have HB := hide (B.trans (hbL.mono B.size))
    go_wp2_with fail
    go_ret
    exact ⟨rfl, HB.out⟩
  have k2' := k2
  by_cases k3 : 64 < en
  · have k3' := k3
    try simp only [Act.put]
    refine pl_begin ?_
    refine pl_t 10 (?_) (by rfl) ?_ rfl ?_
    rotate_left
    · go_simp
      try with_reducible rfl
    simp only [nz]
    refine pl_t 11 (.string es) (by rfl) (pl_one rfl rfl c1 Tryz.underlying9 rfl) rfl ?_
    simp only [nz]
    refine pl_t 12 (.int .i64 (z : Int)) (by rfl) (by go_simp <;> (try simp [HZ.out])) rfl ?_
    simp only [nz]
    refine pl_t 13 (.bool false) (by rfl) (by go_simp <;> (try simp [*])) rfl ?_
    simp only [nz]
    refine pl_t 14 (?_) (by rfl) ?_ rfl ?_
    rotate_left
    · go_simp
      try with_reducible rfl
    simp only [nz]
    refine pl_t 15 (?_) (by rfl) ?_ rfl ?_
    rotate_left
    · go_simp
      try with_reducible rfl
    simp only [nz]
    refine pl_t 16 (.int .i64 (zm : Int)) (by rfl) (by go_simp <;> (try simp [HM.out])) rfl ?_
    simp only [nz]
    refine pl_t 17 (.bool false) (by rfl) (by go_simp <;> (try simp [*])) rfl ?_
    simp only [nz]
    refine pl_t 18 (?_) (by rfl) ?_ rfl ?_
    rotate_left
    · go_simp
      try with_reducible rfl
    simp only [nz]
    refine pl_t 19 (?_) (by rfl) ?_ rfl ?_
    rotate_left
    · go_simp
      try with_reducible rfl
    simp only [nz]
    refine pl_t 20 (?_) (by rfl) ?_ rfl ?_
    rotate_left
    · go_simp
      try with_reducible rfl
    simp only [nz]
    refine pl_t 21 (.int .i64 en) (by rfl) (pl_one rfl rfl c0 Tryz.underlying3 rfl) rfl ?_
    simp only [nz]
    refine pl_t 22 (.bool false) (by rfl) (by go_simp <;> (try simp [*])) rfl ?_
    simp only [nz]
    refine pl_t 23 (?_) (by rfl) ?_ rfl ?_
    rotate_left
    · go_simp
      try with_reducible rfl
    simp only [nz]
    refine pl_t 24 (?_) (by rfl) ?_ rfl ?_
    rotate_left
    · go_simp
      try with_reducible rfl
    simp only [nz]
    refine pl_t 25 (?_) (by rfl) ?_ rfl ?_
    rotate_left
    · go_simp
      try with_reducible rfl
    simp only [nz]
    refine pl_t 26 (.int .i64 en) (by rfl) (pl_one rfl rfl c0 Tryz.underlying3 rfl) rfl ?_
    simp only [nz]
    refine pl_t 27 (.bool true) (by rfl) (by go_simp <;> (try simp [*])) rfl ?_
    simp only [nz]
    refine pl_t 28 (?_) (by rfl) ?_ rfl ?_
    rotate_left
    · go_simp
      try with_reducible rfl
    simp only [nz]
    refine pl_nil ?_
    clear c0 c1 rA cP0 cG hbl k0 k0' k1 k1' k2 k2' k3 k3'
    go_upto_region 2 with fail
    try simp only [Act.put]
    refine pl_begin ?_
    refine pl_call (d := some 29) (by rfl) (by go_simp; first | done | exact ⟨rfl, rfl⟩ | with_reducible rfl) rfl ?_
    refine (lives14_any W (HG.out.below B)).mono ?_
    rintro _ wL ⟨rfl, hbL⟩
    refine ⟨_, rfl, ?_⟩
    simp only [nz]
    refine pl_t 4 (?_) (by rfl) ?_ rfl ?_
    rotate_left
    · go_simp
      try with_reducible rfl
    simp only [nz]
    refine pl_nil ?_
    have HB := hide (B.trans (hbL.mono B.size))
    go_wp2_with fail
    go_ret
    exact ⟨rfl, HB.out⟩
  have k3' := k3
  have hev := HIN.out (by omega) (by omega) k0
  have hg1 := getE_more hev []
  have hg2 := getE_more hev (strL more)
  rw [List.append_nil, if_pos ((done_nil []).2 rfl)] at hg1
  have cP := cP0 k0
  have hlen := hll
  simp only [List.nil_append, List.length_nil] at cP
  obtain ⟨EL, hEL⟩ : ∃ l, Hid (evL e = l) := ⟨_, hide rfl⟩
  rw [hEL.out] at hg1 hg2 hbl hlen
  simp only [hEL.out] at cP
  have hst := strL_strOf hbl
  obtain ⟨st, hsd⟩ : ∃ s, Hid (strOf EL = s) := ⟨_, hide rfl⟩
  have hsz : st.size = EL.length := by rw [← hsd.out, strOf_sizeV]
  rw [hsd.out] at hst
  have cG1 := fun w0 => cG st (by omega) w0
  have cG2 := fun w0 => cG (st ++ more) (by rw [size_app, hsz, HM.out]; omega) w0
  rw [hst, hg1] at cG1
  rw [strL_app, hst, hg2] at cG2
  simp only [hq.out] at cG1
  obtain ⟨mb, hmb⟩ : ∃ b : Bool, Hid (more.toList.isEmpty = b) := ⟨_, hide rfl⟩
  have hcase : Hid (∃ y : Ev, y.ok ∧ ∃ f : Int, ((f == 0) = mb) ∧ (if doneE (strL more) 0 = 0 then (e, (0 : Int)) else (evZ, doneE (strL more) 0)) = (y, f)) := hide (by
    by_cases hm : doneE (strL more) 0 = 0
    · refine ⟨e, HEO.out, 0, ?_, by rw [if_pos hm]⟩
      have h1 := (strL_nil more).1 ((done_nil _).1 hm)
      rw [← hmb.out, h1, nil_tl]; rfl
    · refine ⟨evZ, evZ_ok, doneE (strL more) 0, ?_, by rw [if_neg hm]⟩
      have h1 : more ≠ ⟨#[]⟩ := fun h => hm ((done_nil _).2 ((strL_nil more).2 h))
      have h2 : more.toList.isEmpty = false := by
        cases hE : more.toList.isEmpty with
        | false => rfl
        | true => exact absurd (toList_iff.1 ((List.isEmpty_iff.1 hE).trans nil_tl.symm)) h1
      rw [← hmb.out, h2]
      simpa using hm)
  obtain ⟨y, hyo, f2, hf2, hyf⟩ := hcase.out
  rw [hyf] at cG2
  simp only at cG2
  have hyl : y.cells.length = 18 := EvE.len y hyo
  have hyi : (Tryz.prog.info? 25).map (·.size) = some y.cells.length := by rw [hyl]; exact isz18
  have hy1 : ∀ v ∈ y.cells, v.oneCell' = true := EvE.one y
  obtain ⟨qy, hqy⟩ : ∃ q, Hid (y.cells = q) := ⟨_, hide rfl⟩
  rw [hqy.out] at hyl hyi hy1
  simp only [hqy.out] at cG2
  have HF2 := hide hf2
  have hadd : st.size + more.size ≤ 9223372036854775807 := by rw [hsz, HM.out]; omega
  try simp only [Act.put]
  refine pl_begin ?_
  refine pl_t 10 (?_) (by rfl) ?_ rfl ?_
  rotate_left
  · go_simp
    try with_reducible rfl
  simp only [nz]
  refine pl_t 11 (.string es) (by rfl) (pl_one rfl rfl c1 Tryz.underlying9 rfl) rfl ?_
  simp only [nz]
  refine pl_t 12 (.int .i64 (z : Int)) (by rfl) (by go_simp <;> (try simp [HZ.out])) rfl ?_
  simp only [nz]
  refine pl_t 13 (.bool false) (by rfl) (by go_simp <;> (try simp [*])) rfl ?_
  simp only [nz]
  refine pl_t 14 (?_) (by rfl) ?_ rfl ?_
  rotate_left
  · go_simp
    try with_reducible rfl
  simp only [nz]
  refine pl_t 15 (?_) (by rfl) ?_ rfl ?_
  rotate_left
  · go_simp
    try with_reducible rfl
  simp only [nz]
  refine pl_t 16 (.int .i64 (zm : Int)) (by rfl) (by go_simp <;> (try simp [HM.out])) rfl ?_
  simp only [nz]
  refine pl_t 17 (.bool false) (by rfl) (by go_simp <;> (try simp [*])) rfl ?_
  simp only [nz]
  refine pl_t 18 (?_) (by rfl) ?_ rfl ?_
  rotate_left
  · go_simp
    try with_reducible rfl
  simp only [nz]
  refine pl_t 19 (?_) (by rfl) ?_ rfl ?_
  rotate_left
  · go_simp
    try with_reducible rfl
  simp only [nz]
  refine pl_t 20 (?_) (by rfl) ?_ rfl ?_
  rotate_left
  · go_simp
    try with_reducible rfl
  simp only [nz]
  refine pl_t 21 (.int .i64 en) (by rfl) (pl_one rfl rfl c0 Tryz.underlying3 rfl) rfl ?_
  simp only [nz]
  refine pl_t 22 (.bool false) (by rfl) (by go_simp <;> (try simp [*])) rfl ?_
  simp only [nz]
  refine pl_t 23 (?_) (by rfl) ?_ rfl ?_
  rotate_left
  · go_simp
    try with_reducible rfl
  simp only [nz]
  refine pl_t 24 (?_) (by rfl) ?_ rfl ?_
  rotate_left
  · go_simp
    try with_reducible rfl
  simp only [nz]
  refine pl_t 25 (?_) (by rfl) ?_ rfl ?_
  rotate_left
  · go_simp
    try with_reducible rfl
  simp only [nz]
  refine pl_t 26 (.int .i64 en) (by rfl) (pl_one rfl rfl c0 Tryz.underlying3 rfl) rfl ?_
  simp only [nz]
  refine pl_t 27 (.bool false) (by rfl) (by go_simp <;> (try simp [*])) rfl ?_
  simp only [nz]
  refine pl_t 28 (?_) (by rfl) ?_ rfl ?_
  rotate_left
  · go_simp
    try with_reducible rfl
  simp only [nz]
  refine pl_nil ?_
  clear c0 c1 k0 k0' k1 k1' k2 k2' k3 k3' cP0 cG hll hev hg1 hg2 hbl hst hsz hyf hyo hf2 hcase hqy
  go_upto_region 3 with fail
  try simp only [Act.put]
  refine pl_begin ?_
  refine pl_t 30 (.agg q.toArray) (by rfl) (ex_mid rfl rfl rA Tryz.underlying25 rfl hqi) rfl ?_
  simp only [nz]
  refine pl_call (d := some 31) (by rfl) (by go_simp; first | done | exact ⟨rfl, rfl⟩ | with_reducible rfl) rfl ?_
  refine (cP W).mono ?_
  rintro _ w1 ⟨v1, rfl, m1, hb1⟩
  refine ⟨_, rfl, ?_⟩
  simp only [nz]
  have hcs : (convert 59 9 v1).run Tryz.prog w1 = .ok (.string st) w1 := by rw [← hsd.out]; exact mine_str m1
  refine pl_run (d := some 32) (v := .string st) (w' := w1) (by rfl) (ex_conv rfl rfl hcs) rfl ?_
  simp only [nz]
  refine pl_t 5 (?_) (by rfl) ?_ rfl ?_
  rotate_left
  · go_simp
    try with_reducible rfl
  simp only [nz]
  refine pl_nil ?_
  have rA := range_below rA hb1 sA
  have B := B.trans (hb1.mono B.size)
  have sA := Nat.lt_of_lt_of_le sA hb1.size
  clear m1 hcs hb1 cP
  go_upto_region 4 with fail
  try simp only [Act.put]
  refine pl_begin ?_
  refine pl_t 34 (?_) (by rfl) ?_ rfl ?_
  rotate_left
  · go_simp
    try with_reducible rfl
  simp only [nz]
  refine pl_call (d := some 35) (by rfl) (by go_simp; first | done | exact ⟨rfl, rfl⟩ | with_reducible rfl) rfl ?_
  refine (cG1 w1).mono ?_
  rintro _ w2 ⟨rfl, hb2⟩
  refine ⟨_, rfl, ?_⟩
  simp only [nz]
  refine pl_t 33 (?_) (by rfl) ?_ rfl ?_
  rotate_left
  · go_simp
    try with_reducible rfl
  simp only [nz]
  refine pl_t 36 (?_) (by rfl) ?_ rfl ?_
  rotate_left
  · go_simp
    try with_reducible rfl
  simp only [nz]
  refine pl_t 37 (?_) (by rfl) ?_ rfl ?_
  rotate_left
  · go_simp
    try with_reducible rfl
  simp only [nz]
  refine pl_run (d := some 6) (v := .pointer (some ⟨w2.heap.size, 0, none⟩)) (w' := w2.alloc (.cells zc.toArray 25)) (by rfl) (ex_alloc rfl (hzr _)) rfl ?_
  simp only [nz]
  refine pl_store (w' := (w2.alloc (.cells zc.toArray 25)).setCells w2.heap.size 0 q) (by rfl) (ex_put (cs := q.toArray) rfl rfl rfl (there_newN _ _ _ (by simp [hzl, hql])) (by simpa using hqi) (all_one hq1)) rfl ?_
  refine pl_t 7 (?_) (by rfl) ?_ rfl ?_
  rotate_left
  · go_simp
    try with_reducible rfl
  simp only [nz]
  refine pl_nil ?_
  obtain ⟨r6, hF, hF3, -⟩ := fresh_store w2 zc.toArray 25 q (by simp [hzl, hql])
  have rA := range_below (range_below rA hb2 sA) hF (Nat.lt_of_lt_of_le sA hb2.size)
  have B := B.trans ((hb2.trans (hF.mono hb2.size)).mono B.size)
  have sA := Nat.lt_of_lt_of_le sA (Nat.le_trans hb2.size hF.size)
  obtain ⟨X, hX⟩ : ∃ X, w2.heap.size = X := ⟨_, rfl⟩
  simp only [hX] at r6 hF3 rA B sA ⊢
  obtain ⟨w3, hw3⟩ : ∃ W, (w2.alloc (.cells zc.toArray 25)).setCells X 0 q = W := ⟨_, rfl⟩
  rw [hw3] at r6 hF3 rA B sA ⊢
  have sX : X < w3.heap.size := by omega
  clear hw3 hX hF hF3 hb2 cG1
  go_upto_region 5 with fail
  try simp only [Act.put]
  refine pl_begin ?_
  refine pl_t 39 (?_) (by rfl) ?_ rfl ?_
  rotate_left
  · go_simp
    try with_reducible rfl
  simp only [nz]
  refine pl_t 40 (?_) (by rfl) ?_ rfl ?_
  rotate_left
  · go_simp
    try with_reducible rfl
  simp only [nz]
  refine pl_t 41 (.string (st ++ more)) (by rfl) (by go_simp <;> (first | done | exact hadd | with_reducible rfl | omega)) rfl ?_
  simp only [nz]
  refine pl_call (d := some 42) (by rfl) (by go_simp; first | done | exact ⟨rfl, rfl⟩ | with_reducible rfl) rfl ?_
  refine (cG2 w3).mono ?_
  rintro _ w4 ⟨rfl, hb4⟩
  refine ⟨_, rfl, ?_⟩
  simp only [nz]
  refine pl_t 38 (?_) (by rfl) ?_ rfl ?_
  rotate_left
  · go_simp
    try with_reducible rfl
  simp only [nz]
  refine pl_t 43 (?_) (by rfl) ?_ rfl ?_
  rotate_left
  · go_simp
    try with_reducible rfl
  simp only [nz]
  refine pl_t 44 (?_) (by rfl) ?_ rfl ?_
  rotate_left
  · go_simp
    try with_reducible rfl
  simp only [nz]
  refine pl_run (d := some 8) (v := .pointer (some ⟨w4.heap.size, 0, none⟩)) (w' := w4.alloc (.cells zc.toArray 25)) (by rfl) (ex_alloc rfl (hzr _)) rfl ?_
  simp only [nz]
  refine pl_store (w' := (w4.alloc (.cells zc.toArray 25)).setCells w4.heap.size 0 qy) (by rfl) (ex_put (cs := qy.toArray) rfl rfl rfl (there_newN _ _ _ (by simp [hzl, hyl])) (by simpa using hyi) (all_one hy1)) rfl ?_
  refine pl_t 9 (?_) (by rfl) ?_ rfl ?_
  rotate_left
  · go_simp
    try with_reducible rfl
  simp only [nz]
  refine pl_nil ?_
  obtain ⟨-, hF, hF3, -⟩ := fresh_store w4 zc.toArray 25 qy (by simp [hzl, hyl])
  have rA := range_below (range_below rA hb4 sA) hF (Nat.lt_of_lt_of_le sA hb4.size)
  have r6 := range_below (range_below r6 hb4 sX) hF (Nat.lt_of_lt_of_le sX hb4.size)
  have B := B.trans ((hb4.trans (hF.mono hb4.size)).mono B.size)
  obtain ⟨w5, hw5⟩ : ∃ W, (w4.alloc (.cells zc.toArray 25)).setCells w4.heap.size 0 qy = W := ⟨_, rfl⟩
  rw [hw5] at r6 rA B ⊢
  clear hw5 hF hF3 hb4 cG2 sA sX hyl hyi hy1
  go_upto_region 6 with fail
  try simp only [Act.put]
  refine pl_begin ?_
  refine pl_t 45 (.agg q.toArray) (by rfl) (ex_mid rfl rfl r6 Tryz.underlying25 rfl hqi) rfl ?_
  simp only [nz]
  refine pl_t 46 (.agg q.toArray) (by rfl) (ex_mid rfl rfl rA Tryz.underlying25 rfl hqi) rfl ?_
  simp only [nz]
  refine pl_t 47 (.bool true) (by rfl) (ex_bin rfl rfl rfl (by kernel_rfl) (heq _)) rfl ?_
  simp only [nz]
  refine pl_t 48 (?_) (by rfl) ?_ rfl ?_
  rotate_left
  · go_simp
    try with_reducible rfl
  simp only [nz]
  refine pl_t 49 (?_) (by rfl) ?_ rfl ?_
  rotate_left
  · go_simp
    try with_reducible rfl
  simp only [nz]
  refine pl_t 50 (.bool true) (by rfl) (by go_simp) rfl ?_
  simp only [nz]
  refine pl_t 51 (?_) (by rfl) ?_ rfl ?_
  rotate_left
  · go_simp
    try with_reducible rfl
  simp only [nz]
  refine pl_t 52 (?_) (by rfl) ?_ rfl ?_
  rotate_left
  · go_simp
    try with_reducible rfl
  simp only [nz]
  refine pl_t 53 (?_) (by rfl) ?_ rfl ?_
  rotate_left
  · go_simp
    try with_reducible rfl
  simp only [nz]
  refine pl_t 54 (.bool mb) (by rfl) (by go_simp <;> (try simp only [HF2.out])) rfl ?_
  simp only [nz]
  refine pl_t 55 (?_) (by rfl) ?_ rfl ?_
  rotate_left
  · go_simp
    try with_reducible rfl
  simp only [nz]
  refine pl_t 56 (.bool mb) (by rfl) (by go_simp <;> (try simp only [hmb.out])) rfl ?_
  simp only [nz]
  refine pl_t 57 (.bool true) (by rfl) (by go_simp <;> (try simp)) rfl ?_
  simp only [nz]
  refine pl_t 58 (?_) (by rfl) ?_ rfl ?_
  rotate_left
  · go_simp
    try with_reducible rfl
  simp only [nz]
  refine pl_t 59 (?_) (by rfl) ?_ rfl ?_
  rotate_left
  · go_simp
    try with_reducible rfl
  simp only [nz]
  refine pl_call (d := some 60) (by rfl) (by go_simp; first | done | exact ⟨rfl, rfl⟩ | with_reducible rfl) rfl ?_
  refine (lives14_any w5 (HG.out.below B)).mono ?_
  rintro _ wL ⟨rfl, hbL⟩
  refine ⟨_, rfl, ?_⟩
  simp only [nz]
  refine pl_t 61 (?_) (by rfl) ?_ rfl ?_
  rotate_left
  · go_simp
    try with_reducible rfl
  simp only [nz]
  refine pl_t 4 (?_) (by rfl) ?_ rfl ?_
  rotate_left
  · go_simp
    try with_reducible rfl
  simp only [nz]
  refine pl_nil ?_
  have HB := hide (B.trans (hbL.mono B.size))
  clear r6 rA B hbL heq
  go_wp2_with fail
  go_ret
  exact ⟨rfl, by first | exact HB.out | (rw [HA.out]; exact HB.out)⟩
open Go.ChangeShapes Go.WideShapes Go.ChangeAt Go.RowKit
set_option linter.constructorNameAsVariable false
theorem own : ownKnob Tryz.prog.godebug = none := by kernel_rfl
theorem laidOut : laidOutB Tryz.prog = true := by kernel_rfl
theorem wf64 {z : Int} (h : (Lit.int .i64 z).wf = true) : -9223372036854775808 ≤ z ∧ z ≤ 9223372036854775807 := by
 simp only [Lit.wf, Bool.and_eq_true, decide_eq_true_eq] at h
 exact h
theorem some_at {α : Type} {xs : List α} {n i : Nat} (hl : xs.length = n) (hi : i < n) : ∃ y, xs[i]? = some y := ⟨xs[i]'(by omega), List.getElem?_eq_getElem (by omega)⟩
theorem drop_one {α : Type} {l : List α} {o : Nat} {v : α} (h : (l.drop o).take 1 = [v]) : l[o]? = some v := by
 have := congrArg (·[0]?) h
 simpa [List.getElem?_take, List.getElem?_drop] using this
section
variable {H : Type} {enc : TypeId × Value → H} {W : World} {b : Nat} {sp : Nat → Bool} {held : Bool} {m : Nat}
theorem bytes_at {t n : Nat} {l : List Value} {y : DataW H × List MemPlace} (hu : Tryz.prog.underlying t = some (.array n 5)) (hct : Tryz.prog.cellsOf t = n) (h : DataW.trod enc Tryz.prog W b sp held m t l = some y) : ∃ zs : List Int, l = v8 zs ∧ zs.length = n ∧ ∀ z ∈ zs, 0 ≤ z ∧ z < 256 := by
  have hce : Tryz.prog.cellsOf 5 = 1 := by kernel_rfl
  cases m with
  | zero => simp [DataW.trod] at h
  | succ m =>
    simp only [DataW.trod, hu, hce, hct, Nat.mul_one] at h
    split at h
    · rename_i hsz
      obtain ⟨xs, hm, hx⟩ := Option.map_eq_some_iff.1 h
      have key : ∀ i, i < n → ∃ z, l[i]? = some (.int .u8 z) ∧ 0 ≤ z ∧ z < 256 := fun i hi => by
        obtain ⟨y, hy, hf⟩ := Lib.mapM_at hm i i (by simp [hi])
        obtain ⟨z, hc, rfl, hw⟩ := DataW.trod_int Tryz.underlying5 hf
        refine ⟨z, drop_one hc, ?_⟩
        simp [Lit.wf, IntKind.min, IntKind.max, IntKind.signed, IntKind.bits] at hw
        omega
      have hln : l.length = n := by simpa using hsz
      refine ⟨l.map (fun v => match v with | .int _ z => z | _ => 0), ?_, by simpa using hln, ?_⟩
      · apply List.ext_getElem?
        intro i
        by_cases hi : i < n
        · obtain ⟨z, hz, _⟩ := key i hi
          simp only [v8, List.map_map, List.getElem?_map, hz, Option.map_some]
          rfl
        · rw [List.getElem?_eq_none (by omega), List.getElem?_eq_none (by simp [v8]; omega)]
      · intro z hz
        obtain ⟨u, hu, rfl⟩ := List.mem_map.1 hz
        obtain ⟨i, hi, rfl⟩ := List.mem_iff_getElem.1 hu
        obtain ⟨z, hz, hb⟩ := key i (by omega)
        rw [List.getElem?_eq_getElem hi] at hz
        rw [Option.some.inj hz]
        exact hb
    · cases h
end
theorem take_cut {α : Type} (l : List α) (o n k : Nat) : (l.drop o).take (n + k) = (l.drop o).take n ++ (l.drop (o + n)).take k := by
 rw [List.take_add, List.drop_drop]
theorem take_whole {α : Type} {l : List α} {n : Nat} (h : l.length = n) : l = (l.drop 0).take n := by
 rw [List.drop_zero, List.take_of_length_le (by omega)]
set_option maxRecDepth 100000 in
theorem env_of {H : Type} {enc : TypeId × Value → H} {W : World} {b : Nat} {sp : Nat → Bool} {held : Bool} {fuel : Nat} {l : List Value} {x : DataW H × List MemPlace}
  (h : DataW.trod enc Tryz.prog W b sp held fuel 25 l = some x) : ∃ r : Ev, l = EvE.f r ∧ EvE.ok r := by
 have hct : Tryz.prog.cellsOf 25 = 18 := by kernel_rfl
 obtain ⟨xs, m, _, rfl, hcl, hl, hf⟩ := DataW.trod_struct Tryz.underlying25 h
 rw [hct] at hcl
 have hl : xs.length = 3 := hl
 have h0 : DataW.trod enc Tryz.prog W b sp held m 3 ((l.drop 0).take (Tryz.prog.cellsOf 3)) = xs[0]? := hf 0 _ rfl
 rw [show Tryz.prog.cellsOf 3 = 1 by kernel_rfl] at h0
 obtain ⟨y0, e0⟩ := some_at hl (show 0 < 3 by omega)
 obtain ⟨z0, g0, _, wz0⟩ := DataW.trod_int Tryz.underlying3 (h0.trans e0)
 have bz0 := wf64 wz0
 have h1 : DataW.trod enc Tryz.prog W b sp held m 9 ((l.drop 1).take (Tryz.prog.cellsOf 9)) = xs[1]? := hf 1 _ rfl
 rw [show Tryz.prog.cellsOf 9 = 1 by kernel_rfl] at h1
 obtain ⟨y1, e1⟩ := some_at hl (show 1 < 3 by omega)
 obtain ⟨z1, g1, _, bz1⟩ := DataW.trod_string Tryz.underlying9 (h1.trans e1)
 have h2 : DataW.trod enc Tryz.prog W b sp held m 23 ((l.drop 2).take (Tryz.prog.cellsOf 23)) = xs[2]? := hf 2 _ rfl
 rw [show Tryz.prog.cellsOf 23 = 16 by kernel_rfl] at h2
 obtain ⟨y2, e2⟩ := some_at hl (show 2 < 3 by omega)
 obtain ⟨z2, g2, lz2, bz2⟩ := bytes_at Tryz.underlying23 (by kernel_rfl) (h2.trans e2)
 refine ⟨⟨z0, z1, z2⟩, ?_, ⟨lz2, bz2, bz1, bz0.1, bz0.2⟩⟩
 have e := take_whole (n := 1 + (1 + (16))) hcl
 rw [take_cut, take_cut, g0, g1, g2] at e
 first | exact e | (rw [e]; rfl) | (rw [e]; simp)
end Go.Proofs.YtcbpbkefggekmaaGreatDoor
namespace Go.Proofs.YtcbpbkefggekmaaGreatDoor
open Go.ChangeShapes Go.WideShapes Go.ChangeAt Go.RowKit
open Sha
def laid2 {H : Type} : List (String × DataW H) := [("raddle/digest.starts", Rows.laid_raddle_digest_starts), ("raddle/digest.roots", Rows.laid_raddle_digest_roots)]
theorem gS : Tryz.prog.globalNamed "raddle/digest.starts" = some 0 := by kernel_rfl
theorem gR : Tryz.prog.globalNamed "raddle/digest.roots" = some 1 := by kernel_rfl
theorem tS : (Tryz.prog.globals[0]?).map (·.type) = some 168 := by kernel_rfl
theorem tR : (Tryz.prog.globals[1]?).map (·.type) = some 238 := by kernel_rfl
theorem door_met (os : Os) (args : Array Value) : laidMetH Tryz.prog laid2 ((World.doorLaid Tryz.prog 400 os).forCall (fun _ _ => 0) ⟨#[], args, []⟩).memory :=
 laidMetH_of_parts3 (fuel := 8) (laidMet_of_run' 8 (by kernel_rfl) (by kernel_rfl)) (by kernel_rfl) (by kernel_rfl)
def startZ : List Int := (list init).map fun x => (x.toNat : Int)
def rootZ : List Int := kl.map fun x => (x.toNat : Int)
theorem starts_tab {H : Type} : (Rows.laid_raddle_digest_starts : DataW H) = Lib.tabData .u32 startZ := by kernel_rfl
theorem roots_tab {H : Type} : (Rows.laid_raddle_digest_roots : DataW H) = Lib.tabData .u32 rootZ := by kernel_rfl
theorem glob_of {W : World} (h : laidMetH Tryz.prog laid2 W) : Glob W := by
 rw [MakeChecks.laidMetH_plain _ _ _ (by kernel_rfl)] at h
 obtain ⟨ps, ⟨g0, t0, cs0, f0, p0, q0, hg0, ht0, hv0, hd0, ⟨g1, t1, cs1, f1, p1, q1, hg1, ht1, hv1, hd1, _, _⟩, _⟩, _, _⟩ := h
 obtain rfl := Option.some.inj (gS.symm.trans hg0)
 obtain rfl := Option.some.inj (gR.symm.trans hg1)
 obtain rfl := Option.some.inj (tS.symm.trans ht0)
 obtain rfl := Option.some.inj (tR.symm.trans ht1)
 rw [starts_tab] at hd0
 rw [roots_tab] at hd1
 have e0 := Lib.cells_of_tab Tryz.underlying168 Tryz.underlying167 (by kernel_rfl) (by kernel_rfl) hd0
 have e1 := Lib.cells_of_tab Tryz.underlying238 Tryz.underlying167 (by kernel_rfl) (by kernel_rfl) hd1
 have r0 : W.rangeAt 0 0 (v32 (list init)) := fun j v hv => by
  have := World.var?_cell hg0 hv0 j
  rw [Nat.zero_add, this, ← Array.getElem?_toList, e0]
  simpa [startZ, v32] using hv
 have r1 : W.rangeAt 1 0 (v32 kl) := fun j v hv => by
  have := World.var?_cell hg1 hv1 j
  rw [Nat.zero_add, this, ← Array.getElem?_toList, e1]
  simpa [rootZ, v32] using hv
 refine ⟨r0, r1, ?_⟩
 have := World.block_lt_of_cell? W _ (r1 0 _ rfl)
 exact this
open Go.ChangeShapes Go.WideShapes Go.ChangeAt Go.RowKit
open Sha Tal
set_option linter.unusedVariables false
set_option maxRecDepth 100000 in
theorem open_env {H : Type} {enc : TypeId × Value → H} {W : World} {base b : Nat} {sp : Nat → Bool} {held : Bool} {fuel : Nat} {v : Value} {x : DataW H × List MemPlace} (hv : Value.okWide Tryz.prog W .any base 25 v)
  (h : DataW.trod enc Tryz.prog W b sp held fuel 25 v.cells.toList = some x) : ∃ m : Ev, v = .agg m.cells.toArray ∧ m.ok := by
 unfold Value.okWide at hv
 rw [Tryz.underlying25] at hv
 obtain ⟨cs, rfl, hsz, _⟩ := hv
 obtain ⟨r, h1, h2⟩ := env_of h
 refine ⟨r, ?_, h2⟩
 simp only [Value.cells] at h1
 have h1 : cs.toList = r.cells := h1
 rw [← h1]
end Go.Proofs.YtcbpbkefggekmaaGreatDoor
