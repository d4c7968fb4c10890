/- For all lists of records, raddlelaw24.RecordSince returns true: of any records those from the last state on are told; they stay as they were. Conditions: none beyond the row's own. -/
import Derived.Test.YtinndbipomlokaaGreatJS0
import Derived.Test.YtinndbipomlokaaGreatJS7
import Derived.Test.YtinndbipomlokaaGreatJS6
import Derived.Test.YtinndbipomlokaaGreatJS5
import Derived.Test.YtinndbipomlokaaGreatJS3
import Derived.Deep.Cut
import Derived.Deep.DeepCutAuto
import Derived.Deep.Slices
import Derived.Test.YtinndbipomlokaaGreatRows
import Derived.ProofKit
import Derived.OpenShut
import Derived.ShutString
import Derived.ChangeOld
import Derived.Below
import Derived.Lib.LaidTab
import Derived.WalkKit
namespace Go.Proofs.YtinndbipomlokaaGreat
open Go.RowKit
open Sha Tal
set_option linter.unusedVariables false
set_option linter.unusedSimpArgs false
theorem infoRb : (Tryz.prog.info? 33).map (fun i => (i.zero, i.size, decide (i.bytes ≤ 100000))) = some (some (.agg (Rc.zero 0).cells.toArray), 45, true) := by kernel_rfl
theorem flat_len_r : ∀ (xs : List Rc), (∀ y ∈ xs, (RcE.f y).length = 45) → (xs.flatMap RcE.f).length = xs.length * 45
 | [], _ => rfl
 | x :: xs, h => by
  rw [List.flatMap_cons, List.length_append, h x (by simp), flat_len_r xs (fun y hy => h y (by simp [hy])), List.length_cons]
  omega
theorem Rc.At.below18 {r : Rc} {w w' : World} (h : r.At w) (hb : Below w.heap.size w w') : r.At w' := ⟨h.rs.below hb, h.cs.below hb, h.sg.below hb⟩
theorem src_rc {w : World} {x : Sl Rc} (h : RcsAt w x) : Src Tryz.prog 45 50 x.val x.xs.length (x.xs.flatMap RcE.f) w := by
 obtain ⟨a, cap, xs⟩ := x
 have hr := h.1.2.2
 cases a with
 | none =>
  have : xs = [] := by
   rcases hr with q | ⟨b, off, hx, _⟩
   ·exact q
   ·cases hx
  subst this
  exact Src.ofNil _ Tryz.underlying50 cap
 | some x =>
  have hl : (xs.flatMap RcE.f).length = xs.length * 45 := flat_len_r xs (fun y hy => RcE.len y (h.1.2.1 y hy))
  refine Src.ofSlice w Tryz.underlying50 x xs.length cap _ hl (fun j u hu => ?_) (fun v hv => ?_)
  ·rcases hr with q | ⟨b, off, hx, _, hr⟩
   ·have q : xs = [] := q
    simp [q] at hu
   ·cases hx
    rw [Addr.add_mid]
    exact hr j u hu
  ·obtain ⟨y, _, hy⟩ := List.mem_flatMap.1 hv
   exact y.one v hy
theorem bs0_rc {o : Oper} {a : Act} {w : World} (ho : o.op = .buildSlice 50 0 #[]) :
  ∃ v w', (execOp a.eval o).run Tryz.prog w = .ok (.value v) w' ∧ (Below w.heap.size w w' ∧ w'.ownsRow w.heap.size 33 45 v 0 []) := by
 refine ⟨.slice (some ⟨w.heap.size, 0, none⟩) 0 0, w.alloc (.cells #[] 33), ?_, (Below.refl _ _).alloc (Nat.le_refl _) _, ?_⟩
 ·obtain ⟨i, hi, hzz⟩ := Option.map_eq_some_iff.1 infoRb
  simp only [Prod.mk.injEq] at hzz
  obtain ⟨hz, hs, hb⟩ := hzz
  unfold execOp
  simp [ho, Instr.buildSlice, run_underlying Tryz.underlying50, sizeOf, typeInfo, hi, Instr.fill, newRow]
  have e : (Array.map (fun _ : Nat => (default : Value)) (Array.range 0)) = #[] := by
   apply Array.ext
   ·simp
   ·intro i h1 h2
    simp at h2
  rw [e]
 ·exact ⟨rfl, .inr ⟨w.heap.size, 0, #[], rfl, Nat.le_refl _, heap_alloc_new w _, Nat.le_refl _, by unfold maxLen; omega, rfl, rfl⟩⟩
theorem app_rc {o : Oper} {a : Act} {w : World} {s x : Operand} {B : Nat} {v : Value} {X : Sl Rc} (ho : o.op = .call { callee := .builtin .append, args := #[s, x], argTypes := #[50, 50] }) (hv : a.eval s = v) (hx : a.eval x = X.val)
  (hown : w.ownsRow B 33 45 v 0 []) (hB : B ≤ w.heap.size) (hX : RcsAt w X) (hL : X.xs.length ≤ 100000) :
  ∃ v' w', (execOp a.eval o).run Tryz.prog w = .ok (.value v') w' ∧ (w'.ownsRow B 33 45 v' X.xs.length (X.xs.flatMap RcE.f) ∧ w.grownBy w' v.ownBlock) := by
 obtain ⟨i, hi, hzz⟩ := Option.map_eq_some_iff.1 infoRb
 simp only [Prod.mk.injEq] at hzz
 obtain ⟨hz, hs, hb⟩ := hzz
 have hb := of_decide_eq_true hb
 have hm : (0 + X.xs.length) * i.bytes ≤ 140737488355328 := Nat.le_trans (Nat.mul_le_mul (show 0 + X.xs.length ≤ 100000 by omega) hb) (by decide)
 obtain ⟨v', w', hrun, ho2, hg⟩ := run_append_own_src (P := Tryz.prog) w B 50 50 o.type 33 i _ 45 i.bytes Tryz.underlying50 hi hz hs rfl (by show (Rc.zero 0).cells.toArray.size = 45; rw [List.size_toArray]; exact Rc.len Vt.zero_ok) v 0 [] hown _ X.xs.length (X.xs.flatMap RcE.f) (src_rc hX) (by unfold maxLen; omega) hm hB
 exact ⟨v', w', exec_append1 ho hv hx hrun, by simpa using ho2, hg⟩
theorem own_recs {w : World} {B : Nat} {v : Value} {xs : List Rc} (h : w.ownsRow B 33 45 v xs.length (xs.flatMap RcE.f)) (hok : ∀ r ∈ xs, r.ct.ok) (hat : ∀ r ∈ xs, r.At w) (hm : xs.length ≤ maxLen) :
  ∃ y : Sl Rc, v = y.val ∧ y.xs = xs ∧ y.xs.length ≤ y.cap ∧ y.cap ≤ maxLen ∧ RcsAt w y := by
 rcases h.2 with ⟨rfl, h0⟩ | ⟨g, cap, cur, rfl, hb, hg, hn, hcm, hcs, ht⟩
 ·have : xs = [] := List.eq_nil_of_length_eq_zero h0
  subst this
  exact ⟨⟨none, 0, []⟩, rfl, rfl, Nat.le_refl _, Nat.zero_le _, RowsAt.none, fun _ h => by cases h⟩
 ·refine ⟨⟨some ⟨g, 0, none⟩, cap, xs⟩, rfl, rfl, hn, hcm, ⟨hm, hok, Or.inr ⟨g, 0, rfl, (Array.getElem?_eq_some_iff.1 hg).1, fun j u hu => ?_⟩⟩, hat⟩
  have := h.cells (g := g) rfl j u hu
  rwa [Addr.add_mid] at this
def NewRecs (w : World) (xs : List Rc) (e : Ending) (w' : World) : Prop := ∃ y : Sl Rc, e = .returned y.val ∧ y.xs = xs ∧ y.xs.length ≤ y.cap ∧ y.cap ≤ maxLen ∧ RcsAt w' y ∧ Below w.heap.size w w'
set_option maxRecDepth 100000 in
set_option maxHeartbeats 2000000 in
theorem cloneRc_any (x : Sl Rc) (w : World) (h : RcsAt w x) (hn : x.xs.length ≤ 100000) : Calls Tryz.prog 45 #[x.val] w fun e w' => NewRecs w x.xs e w' := by
 obtain ⟨a, cap, xs⟩ := x
 have hr := h.1.2.2
 have hok := h.1.2.1
 have hat := h.2
 cases a with
 | none =>
  have hnil : xs = [] := by
   rcases hr with q | ⟨b, off, hx, _⟩
   ·exact q
   ·cases hx
  subst hnil
  have hn := fun w => Lib.run_eql_slice_nil (P := Tryz.prog) w 50 33 none 0 cap 0 0 Tryz.underlying50
  have HF : Hid (NewRecs w [] (.returned (.slice none 0 0)) w) := hide ⟨⟨none, 0, []⟩, rfl, rfl, Nat.le_refl _, Nat.zero_le _, ⟨RowsAt.none, fun _ h => by cases h⟩, Below.refl _ _⟩
  show Calls Tryz.prog 45 #[.slice none 0 cap] w fun e w' => NewRecs w [] e w'
  clear h hr hok hat
  go_enter Tryz.func45, Tryz.ntmps45
  go_wp2
  go_ret
  exact HF.out
 | some q =>
  have hq := fun w => Lib.run_eql_slice_nil (P := Tryz.prog) w 50 33 (some q) xs.length cap 0 0 Tryz.underlying50
  show Calls Tryz.prog 45 #[.slice (some q) xs.length cap] w fun e w' => NewRecs w xs e w'
  have hml : xs.length ≤ 100000 := hn
  clear hn hr
  go_enter Tryz.func45, Tryz.ntmps45
  go_upto_region 3 with fail
  try simp only [Act.put]
  refine pl_begin ?_
  refine pl_runX (d := some 5) (by rfl) rfl (bs0_rc rfl) ?_
  rintro v1 w1 ⟨hb1, own1⟩
  simp only [nz]
  refine pl_t 6 (?_) (by rfl) ?_ rfl ?_
  rotate_left
  ·go_simp
   try with_reducible rfl
  simp only [nz]
  refine pl_runX (d := some 7) (by rfl) rfl (app_rc (X := ⟨some q, cap, xs⟩) rfl rfl rfl own1 hb1.size (h.below hb1) hml) ?_
  rintro v2 w2 ⟨own2, g2⟩
  have hb2 : Below w.heap.size w w2 := hb1.grown g2 hb1.size (fun k hk => (own1.lt k hk).1)
  obtain ⟨y, rfl, hy⟩ := own_recs own2 hok (fun r hr => (hat r hr).below18 hb2) (Nat.le_trans hml (by decide))
  have HF : Hid (NewRecs w xs (.returned y.val) w2) := hide ⟨y, rfl, hy.1, hy.2.1, hy.2.2.1, hy.2.2.2, hb2⟩
  clear hy own2 g2 own1 hb1 hb2
  simp only [nz]
  refine pl_t 2 (?_) (by rfl) ?_ rfl ?_
  rotate_left
  ·go_simp
   try with_reducible rfl
  simp only [nz]
  refine pl_nil ?_
  go_wp2_with fail
  go_ret
  exact HF.out
theorem wrap_idR (x : Int) (h0 : -9223372036854775808 ≤ x) (h1 : x ≤ 9223372036854775807) : IntKind.i64.wrap x = x := by
 rw [IntKind.wrap_i64]
 omega
def lastK (xs : List Rc) : Nat → Nat
  | 0 => 0
  | i + 1 => if (xs.getD i (Rc.zero 0)).k = 5 then i else lastK xs i
theorem lastK_le (xs : List Rc) : ∀ n, lastK xs n ≤ n
 | 0 => Nat.le_refl _
 | n + 1 => by
  unfold lastK
  have := lastK_le xs n
  split <;> omega
theorem lastK_none (xs : List Rc) : ∀ n j, lastK xs n < j → j < n → (xs.getD j (Rc.zero 0)).k ≠ 5
 | 0, _, _, h => absurd h (Nat.not_lt_zero _)
 | n + 1, j, h1, h2 => by
  unfold lastK at h1
  split at h1
  ·omega
  ·rename_i hk
   by_cases e : j = n
   ·subst e; exact hk
   ·exact lastK_none xs n j h1 (by omega)
def tailR (a : Option Addr) (cap k : Nat) : Option Addr := a.map (fun x => if cap = k then x else x.add (k * 45))
theorem tailR_at (a : Option Addr) (n cap k : Nat) (hk : k ≤ n) (hn : n ≤ cap) (w : World) :
  (Instr.sliceAt 50 (.slice a n cap) (some (.int .i64 (k : Int))) none none).run Tryz.prog w = .ok (.slice (tailR a cap k) (n - k) (cap - k)) w := by
 have h1 : (k : Int) ≤ n := by omega
 have h2 : (n : Int) ≤ cap := by omega
 cases a with
 | none =>
  by_cases hck : cap = k
  ·subst hck
   simp [go_sem, tailR]
   intro h; omega
  ·simp [go_sem, tailR]
   intro h; omega
 | some x =>
  by_cases hck : cap = k
  ·subst hck
   simp [go_sem, tailR]
   intro h; omega
  ·simp [go_sem, tailR, hck]
   intro h; omega
theorem ex_slice {P : Program} {o : Oper} {a : Act} {w : World} {t : TypeId} {x y : Operand} {u v r : Value} (ho : o.op = .slice t x (some y) none none) (hx : a.eval x = u) (hy : a.eval y = v) (hr : (Instr.sliceAt t u (some v) none none).run P w = .ok r w) : (execOp a.eval o).run P w = .ok (.value r) w := by
 unfold execOp
 simp [ho, hx, hy, hr]
theorem rcs_tail {w : World} {a : Option Addr} {cap : Nat} {xs : List Rc} (h : RcsAt w ⟨a, cap, xs⟩) (k : Nat) (hk : k ≤ xs.length) (hc : xs.length ≤ cap) : RcsAt w ⟨tailR a cap k, cap - k, xs.drop k⟩ := by
 refine ⟨⟨?_, fun y hy => h.1.2.1 y (List.mem_of_mem_drop hy), ?_⟩, fun y hy => h.2 y (List.mem_of_mem_drop hy)⟩
 ·show (xs.drop k).length ≤ maxLen
  rw [List.length_drop]
  exact Nat.le_trans (Nat.sub_le _ _) h.1.1
 ·by_cases hlt : k < xs.length
  ·rcases h.1.2.2 with q | ⟨b, off, hx, hb, hr⟩
   ·have q : xs = [] := q
    rw [q] at hlt
    exact absurd hlt (Nat.not_lt_zero _)
   ·have hx : a = some ⟨b, off, none⟩ := hx
    have hr : w.rangeAt b off (xs.flatMap RcE.f) := hr
    refine .inr ⟨b, off + k * 45, ?_, hb, ?_⟩
    ·show tailR a cap k = _
     rw [hx]
     unfold tailR
     rw [Option.map_some, if_neg (by omega), Addr.add_mid]
    ·have e : xs.flatMap RcE.f = (xs.take k).flatMap RcE.f ++ (xs.drop k).flatMap RcE.f := by rw [← List.flatMap_append, List.take_append_drop]
     rw [e] at hr
     have hl : ((xs.take k).flatMap RcE.f).length = k * 45 := by
      rw [flat_len_r _ (fun y hy => RcE.len y (h.1.2.1 y (List.mem_of_mem_take hy))), List.length_take, Nat.min_eq_left hk]
     have := range_right hr
     rwa [hl] at this
  ·refine .inl ?_
   show xs.drop k = []
   exact List.drop_of_length_le (by omega)
set_option maxRecDepth 100000 in
set_option maxHeartbeats 2000000 in
theorem xksince_any (a : Option Addr) (cap : Nat) (xs : List Rc) (w : World) (h : RcsAt w ⟨a, cap, xs⟩) (hc : xs.length ≤ cap) (hm : cap ≤ maxLen) (hn : xs.length ≤ 100) : Calls Tryz.prog 18 #[.slice a xs.length cap] w fun e w' => e = .returned (.slice (tailR a cap (lastK xs xs.length)) (xs.length - lastK xs xs.length) (cap - lastK xs xs.length)) ∧ w' = w := by
 have hxx : ∀ w', Below w.heap.size w w' → RowsAt RcE w' a xs ∧ ∀ r ∈ xs, r.At w' := fun w' h0 => h.below h0
 have hsl := fun k hk => tailR_at a xs.length cap k hk hc w
 have HL := hide (lastK_le xs xs.length)
 unfold maxLen at hm
 go_enter Tryz.func18, Tryz.ntmps18
 go_upto_region 2 with fail
 try simp only [Act.put]
 refine pl_begin ?_
 refine pl_t 4 (?_) (by rfl) ?_ rfl ?_
 rotate_left
 ·go_simp
  try with_reducible rfl
 simp only [nz]
 refine pl_nil ?_
 have HK0 : Hid (lastK xs 0 = 0) := hide rfl
 go_wp2_with fail
 go_loopw [3, 4] (fun fv iv wr => ∃ i : Nat, i ≤ xs.length ∧ iv = .int .i64 (i : Int) ∧ fv = .int .i64 (lastK xs i : Nat) ∧ Hid (wr = w)) (fun _ iv _ => xs.length - (intOf iv).toNat)
 case atStart => exact ⟨0, by omega, rfl, rfl, hide rfl⟩
 case round =>
  clear HK0
  obtain ⟨i, hi, rfl, rfl, HW⟩ := hrel
  have hBw : Below w.heap.size w wr := by rw [HW.out]; exact Below.refl _ _
  by_cases hlt : i < xs.length
  ·have i1 : (i : Int) < xs.length := by omega
   obtain ⟨b, off, hxa, hbb, hre⟩ := RowsAt.elem (hxx wr hBw).1 i hlt
   have hre : wr.rangeAt b (off + i * 45) (RcE.f xs[i]) := hre
   have hxa : a = some ⟨b, off, none⟩ := hxa
   have hgd : xs.getD i (Rc.zero 0) = xs[i] := by rw [List.getD_eq_getElem?_getD, List.getElem?_eq_getElem hlt, Option.getD_some]
   obtain ⟨g, hgg⟩ : ∃ g, Hid (xs[i] = g) := ⟨_, hide rfl⟩
   rw [hgg.out] at hre hgd
   have ck : wr.cell? ⟨b, off + i * 45, none⟩ = some (.int .i64 g.k) := by have := hre 0 _ rfl; rwa [Nat.add_zero] at this
   have hgh := hide hgd
   clear hgd hgg hre
   subst hxa
   have HU : Hid (lastK xs (i + 1) = if g.k = 5 then i else lastK xs i) := hide (by show (if (xs.getD i (Rc.zero 0)).k = 5 then i else lastK xs i) = _; rw [hgh.out])
   obtain ⟨L, hL⟩ : ∃ L, Hid (lastK xs i = L) := ⟨_, hide rfl⟩
   rw [hL.out] at HU ⊢
   clear hgh hxx hsl HL
   go_upto_region 5 with fail
   by_cases h5 : g.k = 5
   ·have HP : Hid (lastK xs (i + 1) = i) := hide (by rw [HU.out, if_pos h5])
    rw [h5] at ck
    clear HU h5
    try simp only [Act.put]
    refine pl_begin ?_
    refine pl_t 11 (?_) (by rfl) ?_ rfl ?_
    rotate_left
    ·go_simp
     try with_reducible rfl
    simp only [nz]
    refine pl_t 12 (?_) (by rfl) ?_ rfl ?_
    rotate_left
    ·go_simp
     try with_reducible rfl
    simp only [nz]
    refine pl_t 13 (?_) (by rfl) ?_ rfl ?_
    rotate_left
    ·go_simp
     try with_reducible rfl
    simp only [nz]
    refine pl_t 14 (?_) (by rfl) ?_ rfl ?_
    rotate_left
    ·go_simp
     try with_reducible rfl
    simp only [nz]
    refine pl_t 15 (.int .i64 5) (by rfl) (pl_one rfl rfl ck Tryz.underlying3 rfl) rfl ?_
    simp only [nz]
    refine pl_t 16 (.bool true) (by rfl) (by go_simp) rfl ?_
    simp only [nz]
    refine pl_nil ?_
    clear ck
    go_wp2_with fail
    go_roundw
    case rel => exact ⟨i + 1, by omega, by go_num, by rw [HP.out], HW⟩
    case measure => simp [intOf]; omega
   ·have HP : Hid (lastK xs (i + 1) = L) := hide (by rw [HU.out, if_neg h5])
    have h5b : (g.k == 5) = false := by simpa using h5
    clear HU h5
    try simp only [Act.put]
    refine pl_begin ?_
    refine pl_t 11 (?_) (by rfl) ?_ rfl ?_
    rotate_left
    ·go_simp
     try with_reducible rfl
    simp only [nz]
    refine pl_t 12 (?_) (by rfl) ?_ rfl ?_
    rotate_left
    ·go_simp
     try with_reducible rfl
    simp only [nz]
    refine pl_t 13 (?_) (by rfl) ?_ rfl ?_
    rotate_left
    ·go_simp
     try with_reducible rfl
    simp only [nz]
    refine pl_t 14 (?_) (by rfl) ?_ rfl ?_
    rotate_left
    ·go_simp
     try with_reducible rfl
    simp only [nz]
    refine pl_t 15 (.int .i64 g.k) (by rfl) (pl_one rfl rfl ck Tryz.underlying3 rfl) rfl ?_
    simp only [nz]
    refine pl_t 16 (.bool false) (by rfl) (by go_simp <;> (try simp [*])) rfl ?_
    simp only [nz]
    refine pl_nil ?_
    clear ck
    go_wp2_with fail
    go_roundw
    case rel => exact ⟨i + 1, by omega, by go_num, by rw [HP.out], HW⟩
    case measure => simp [intOf]; omega
  ·obtain rfl : i = xs.length := by omega
   have hsl2 := hsl (lastK xs xs.length) HL.out
   rw [← HW.out] at hsl2
   obtain ⟨L, hL⟩ : ∃ L, Hid (lastK xs xs.length = L) := ⟨_, hide rfl⟩
   simp only [hL.out] at hsl2 ⊢
   have HF : Hid (Ending.returned (.slice (tailR a cap L) (xs.length - L) (cap - L)) = .returned (.slice (tailR a cap (lastK xs xs.length)) (xs.length - lastK xs xs.length) (cap - lastK xs xs.length)) ∧ wr = w) := hide (by rw [hL.out]; exact ⟨rfl, HW.out⟩)
   clear hxx hsl HL hL HW hBw
   go_upto_region 7 with fail
   try simp only [Act.put]
   refine pl_begin ?_
   refine pl_t 18 (?_) (by rfl) ?_ rfl ?_
   rotate_left
   ·go_simp
    try with_reducible rfl
   simp only [nz]
   refine pl_t 19 (?_) (by rfl) ?_ rfl ?_
   rotate_left
   ·go_simp
    try with_reducible rfl
   simp only [nz]
   refine pl_t 20 (.slice (tailR a cap L) (xs.length - L) (cap - L)) (by rfl) (ex_slice rfl rfl rfl hsl2) rfl ?_
   simp only [nz]
   refine pl_t 2 (?_) (by rfl) ?_ rfl ?_
   rotate_left
   ·go_simp
    try with_reducible rfl
   simp only [nz]
   refine pl_nil ?_
   go_wp2_with fail
   go_ret
   exact HF.out
set_option maxRecDepth 100000 in
set_option maxHeartbeats 2000000 in
theorem ksince_any (a : Option Addr) (cap : Nat) (xs : List Rc) (w : World) (h : RcsAt w ⟨a, cap, xs⟩) (hc : xs.length ≤ cap) (hm : cap ≤ maxLen) (hn : xs.length ≤ 100) : Calls Tryz.prog 17 #[.slice a xs.length cap] w fun e w' => NewRecs w (xs.drop (lastK xs xs.length)) e w' := by
 have hxx : ∀ w', Below w.heap.size w w' → RowsAt RcE w' a xs ∧ ∀ r ∈ xs, r.At w' := fun w' h0 => h.below h0
 have hsl := fun k hk => tailR_at a xs.length cap k hk hc w
 have cc := fun k (hk : k ≤ xs.length) => cloneRc_any ⟨tailR a cap k, cap - k, xs.drop k⟩ w (rcs_tail h k hk hc) (by show (xs.drop k).length ≤ 100000; rw [List.length_drop]; omega)
 have cw := cloneRc_any ⟨a, cap, xs⟩ w h (by show xs.length ≤ 100000; omega)
 have hdl : ∀ k, (xs.drop k).length = xs.length - k := fun k => List.length_drop
 unfold Sl.val at cc cw
 simp only [hdl] at cc
 simp only at cw
 clear hdl h
 unfold maxLen at hm
 go_enter Tryz.func17, Tryz.ntmps17
 go_upto_region 1 with fail
 try simp only [Act.put]
 refine pl_begin ?_
 refine pl_t 5 (?_) (by rfl) ?_ rfl ?_
 rotate_left
 ·go_simp
  try with_reducible rfl
 simp only [nz]
 refine pl_t 6 (?_) (by rfl) ?_ rfl ?_
 rotate_left
 ·go_simp
  try with_reducible rfl
 simp only [nz]
 refine pl_t 7 (?_) (by rfl) ?_ rfl ?_
 rotate_left
 ·go_simp
  try with_reducible rfl
 simp only [nz]
 refine pl_nil ?_
 have HK0 : Hid (lastK xs xs.length = lastK xs (xs.length - 0)) := hide (by rw [Nat.sub_zero])
 go_wp2_with fail
 go_loopw [7] (fun iv wr => ∃ k : Nat, k ≤ xs.length ∧ iv = .int .i64 (k : Int) ∧ Hid (wr = w ∧ lastK xs xs.length = lastK xs (xs.length - k))) (fun iv _ => xs.length - (intOf iv).toNat)
 case atStart => exact ⟨0, by omega, rfl, hide ⟨rfl, HK0.out⟩⟩
 case round =>
  clear HK0
  obtain ⟨k, hk, rfl, HW⟩ := hrel
  have hBw : Below w.heap.size w wr := by rw [HW.out.1]; exact Below.refl _ _
  by_cases hkk : k < xs.length
  ·have k1 : (k : Int) < xs.length := by omega
   obtain ⟨j, hj⟩ : ∃ j, Hid (xs.length = j + k + 1) := ⟨xs.length - 1 - k, hide (by omega)⟩
   have hlt : j < xs.length := by have := hj.out; omega
   have j1 : (xs.length : Int) - 1 - k = (j : Int) := by have := hj.out; omega
   have j2 : (j : Int) < xs.length := by omega
   have w1 : IntKind.i64.wrap ((xs.length : Int) - 1) = (xs.length : Int) - 1 := wrap_idR _ (by omega) (by omega)
   have w2 : IntKind.i64.wrap ((xs.length : Int) - 1 - k) = (j : Int) := by rw [j1]; exact wrap_idR _ (by omega) (by omega)
   replace j1 := hide j1
   replace w1 := hide w1
   replace w2 := hide w2
   have hjk : Hid (xs.length - k = j + 1 ∧ xs.length - (k + 1) = j) := hide (by have := hj.out; omega)
   obtain ⟨b, off, hxa, hbb, hre⟩ := RowsAt.elem (hxx wr hBw).1 j hlt
   have hre : wr.rangeAt b (off + j * 45) (RcE.f xs[j]) := hre
   have hxa : a = some ⟨b, off, none⟩ := hxa
   have hgd : xs.getD j (Rc.zero 0) = xs[j] := by rw [List.getD_eq_getElem?_getD, List.getElem?_eq_getElem hlt, Option.getD_some]
   obtain ⟨g, hgg⟩ : ∃ g, Hid (xs[j] = g) := ⟨_, hide rfl⟩
   rw [hgg.out] at hre hgd
   have ck : wr.cell? ⟨b, off + j * 45, none⟩ = some (.int .i64 g.k) := by have := hre 0 _ rfl; rwa [Nat.add_zero] at this
   have hgh := hide hgd
   clear hgd hgg hre
   have HU : Hid (lastK xs (j + 1) = if g.k = 5 then j else lastK xs j) := hide (by show (if (xs.getD j (Rc.zero 0)).k = 5 then j else lastK xs j) = _; rw [hgh.out])
   clear hgh hxx cw
   have J5 := tailR_at a xs.length cap j (by omega) hc wr
   have C5 := cc j (by omega)
   rw [← HW.out.1] at C5
   clear hsl cc
   subst hxa
   go_upto_region 4 with fail
   try simp only [Act.put]
   refine pl_begin ?_
   refine pl_t 10 (?_) (by rfl) ?_ rfl ?_
   rotate_left
   ·go_simp
    try with_reducible rfl
   simp only [nz]
   refine pl_t 11 (?_) (by rfl) ?_ rfl ?_
   rotate_left
   ·go_simp
    try with_reducible rfl
   simp only [nz]
   refine pl_t 12 (.int .i64 ((xs.length : Int) - 1)) (by rfl) (by go_simp <;> (exact w1.out)) rfl ?_
   simp only [nz]
   refine pl_t 13 (?_) (by rfl) ?_ rfl ?_
   rotate_left
   ·go_simp
    try with_reducible rfl
   simp only [nz]
   refine pl_t 14 (.int .i64 (j : Int)) (by rfl) (by go_simp <;> (exact w2.out)) rfl ?_
   simp only [nz]
   refine pl_t 4 (?_) (by rfl) ?_ rfl ?_
   rotate_left
   ·go_simp
    try with_reducible rfl
   simp only [nz]
   refine pl_nil ?_
   go_upto_region 5 with fail
   by_cases h5 : g.k = 5
   ·have HP : Hid (lastK xs xs.length = j) := hide (by rw [HW.out.2, hjk.out.1, HU.out, if_pos h5])
    rw [h5] at ck
    clear HU h5 hjk
    try simp only [Act.put]
    refine pl_begin ?_
    refine pl_t 15 (?_) (by rfl) ?_ rfl ?_
    rotate_left
    ·go_simp
     try with_reducible rfl
    simp only [nz]
    refine pl_t 16 (?_) (by rfl) ?_ rfl ?_
    rotate_left
    ·go_simp
     try with_reducible rfl
    simp only [nz]
    refine pl_t 17 (?_) (by rfl) ?_ rfl ?_
    rotate_left
    ·go_simp
     try with_reducible rfl
    simp only [nz]
    refine pl_t 18 (?_) (by rfl) ?_ rfl ?_
    rotate_left
    ·go_simp
     try with_reducible rfl
    simp only [nz]
    refine pl_t 19 (.int .i64 5) (by rfl) (pl_one rfl rfl ck Tryz.underlying3 rfl) rfl ?_
    simp only [nz]
    refine pl_t 20 (.bool true) (by rfl) (by go_simp) rfl ?_
    simp only [nz]
    refine pl_nil ?_
    clear ck
    obtain ⟨E0, hE0⟩ : ∃ E : Ending → World → Prop, Hid (E = fun e w' => NewRecs w (xs.drop j) e w') := ⟨_, hide rfl⟩
    rw [HW.out.1] at C5
    obtain ⟨TA, hTA⟩ : ∃ t, tailR (some ⟨b, off, none⟩) cap j = t := ⟨_, rfl⟩
    rw [hTA] at C5 J5
    obtain ⟨TL, hTL⟩ : ∃ t, xs.length - j = t := ⟨_, rfl⟩
    rw [hTL] at C5 J5
    obtain ⟨TC, hTC⟩ : ∃ t, cap - j = t := ⟨_, rfl⟩
    rw [hTC] at C5 J5
    have HW1 := hide HW.out.1
    clear HW hE0 E0 hTA hTL hTC
    go_upto_region 6 with fail
    try simp only [Act.put]
    refine pl_begin ?_
    refine pl_t 21 (?_) (by rfl) ?_ rfl ?_
    rotate_left
    ·go_simp
     try with_reducible rfl
    simp only [nz]
    refine pl_t 22 (?_) (by rfl) ?_ rfl ?_
    rotate_left
    ·go_simp
     try with_reducible rfl
    simp only [nz]
    refine pl_t 23 (.slice TA TL TC) (by rfl) (ex_slice rfl rfl rfl J5) rfl ?_
    simp only [nz]
    obtain ⟨wq, hwq⟩ : ∃ q, wr = q := ⟨_, rfl⟩
    rw [← HW1.out] at C5
    refine pl_call (d := some 24) (by rfl) (by go_simp; first | done | exact ⟨rfl, rfl⟩ | with_reducible rfl) rfl ?_
    refine (C5).mono ?_
    rintro e5 w5 hN5
    obtain ⟨y, rfl, hy⟩ := hN5
    refine ⟨_, rfl, ?_⟩
    simp only [nz]
    refine pl_t 2 (?_) (by rfl) ?_ rfl ?_
    rotate_left
    ·go_simp
     try with_reducible rfl
    simp only [nz]
    refine pl_nil ?_
    have HF : Hid (NewRecs w (xs.drop (lastK xs xs.length)) (.returned y.val) w5) := hide (by rw [HP.out, ← HW1.out]; exact ⟨y, rfl, hy⟩)
    clear hy C5 J5
    go_wp2_with fail
    go_ret
    exact HF.out
   ·have HP : Hid (wr = w ∧ lastK xs xs.length = lastK xs (xs.length - (k + 1))) := hide ⟨HW.out.1, by rw [HW.out.2, hjk.out.1, HU.out, if_neg h5, hjk.out.2]⟩
    have h5b : (g.k == 5) = false := by simpa using h5
    clear HU h5 hjk C5 J5
    try simp only [Act.put]
    refine pl_begin ?_
    refine pl_t 15 (?_) (by rfl) ?_ rfl ?_
    rotate_left
    ·go_simp
     try with_reducible rfl
    simp only [nz]
    refine pl_t 16 (?_) (by rfl) ?_ rfl ?_
    rotate_left
    ·go_simp
     try with_reducible rfl
    simp only [nz]
    refine pl_t 17 (?_) (by rfl) ?_ rfl ?_
    rotate_left
    ·go_simp
     try with_reducible rfl
    simp only [nz]
    refine pl_t 18 (?_) (by rfl) ?_ rfl ?_
    rotate_left
    ·go_simp
     try with_reducible rfl
    simp only [nz]
    refine pl_t 19 (.int .i64 g.k) (by rfl) (pl_one rfl rfl ck Tryz.underlying3 rfl) rfl ?_
    simp only [nz]
    refine pl_t 20 (.bool false) (by rfl) (by go_simp <;> (try simp [*])) rfl ?_
    simp only [nz]
    refine pl_nil ?_
    clear ck
    go_wp2_with fail
    go_roundw
    case rel => exact ⟨k + 1, by omega, by go_num, HP⟩
    case measure => simp [intOf]; omega
  ·obtain rfl : k = xs.length := by omega
   have HZ : Hid (lastK xs xs.length = 0) := hide (by have := HW.out.2; rw [Nat.sub_self] at this; exact this)
   rw [← HW.out.1] at cw
   have HW1 := hide HW.out.1
   clear hxx hsl cc HW hBw
   go_upto_region 8 with fail
   try simp only [Act.put]
   refine pl_begin ?_
   refine pl_t 26 (?_) (by rfl) ?_ rfl ?_
   rotate_left
   ·go_simp
    try with_reducible rfl
   simp only [nz]
   refine pl_call (d := some 27) (by rfl) (by go_simp; first | done | exact ⟨rfl, rfl⟩ | with_reducible rfl) rfl ?_
   refine (cw).mono ?_
   rintro e5 w5 hN5
   obtain ⟨y, rfl, hy⟩ := hN5
   refine ⟨_, rfl, ?_⟩
   simp only [nz]
   refine pl_t 2 (?_) (by rfl) ?_ rfl ?_
   rotate_left
   ·go_simp
    try with_reducible rfl
   simp only [nz]
   refine pl_nil ?_
   have HF : Hid (NewRecs w (xs.drop (lastK xs xs.length)) (.returned y.val) w5) := hide (by rw [HZ.out, List.drop_zero, ← HW1.out]; exact ⟨y, rfl, hy⟩)
   clear hy cw
   go_wp2_with fail
   go_ret
   exact HF.out
set_option maxRecDepth 100000 in
set_option maxHeartbeats 4000000 in
theorem since_walk (x : Sl Rc) (w : World) (h : RcsAt w x) (hc : x.xs.length ≤ x.cap) (hm : x.cap ≤ maxLen) : Calls Tryz.prog 6 #[x.val] w fun e w' => e = .returned (.bool true) ∧ Below w.heap.size w w' := by
 have cL := light24_any x w h
 unfold LightK at cL
 obtain ⟨a, cap, xs⟩ := x
 have hc : xs.length ≤ cap := hc
 have hm : cap ≤ maxLen := hm
 have hok := h.1.2.1
 have hat := h.2
 unfold Sl.val at cL
 show Calls Tryz.prog 6 #[.slice a xs.length cap] w _
 simp only at cL
 go_enter Tryz.func6, Tryz.ntmps6
 go_upto_region 1 with fail
 try simp only [Act.put]
 refine pl_begin ?_
 refine pl_t 8 (?_) (by rfl) ?_ rfl ?_
 rotate_left
 ·go_simp
  try with_reducible rfl
 simp only [nz]
 refine pl_call (d := some 9) (by rfl) (by go_simp; first | done | exact ⟨rfl, rfl⟩ | with_reducible rfl) rfl ?_
 refine (cL).mono ?_
 rintro _ w1 ⟨b, rfl, hb1, hl⟩
 refine ⟨_, rfl, ?_⟩
 simp only [nz]
 clear cL
 cases b
 ·refine pl_t 10 (?_) (by rfl) ?_ rfl ?_
  rotate_left
  ·go_simp
   try with_reducible rfl
  simp only [nz]
  refine pl_nil ?_
  clear h hok hat
  go_upto_region 2 with fail
  try simp only [Act.put]
  refine pl_begin ?_
  refine pl_call (d := some 11) (by rfl) (by go_simp; first | done | exact ⟨rfl, rfl⟩ | with_reducible rfl) rfl ?_
  refine (lives24_any w1).mono ?_
  rintro _ w2 ⟨rfl, hb2⟩
  refine ⟨_, rfl, ?_⟩
  simp only [nz]
  refine pl_t 2 (?_) (by rfl) ?_ rfl ?_
  rotate_left
  ·go_simp
   try with_reducible rfl
  simp only [nz]
  refine pl_nil ?_
  have HB := hide (hb1.trans (hb2.mono hb1.size))
  go_wp2_with fail
  go_ret
  exact ⟨rfl, HB.out⟩
 ·have hx100 : xs.length ≤ 100 := (hl rfl).1
  clear hl
  refine pl_t 10 (?_) (by rfl) ?_ rfl ?_
  rotate_left
  ·go_simp
   try with_reducible rfl
  simp only [nz]
  refine pl_nil ?_
  have h1 := h.below hb1
  go_upto_region 3 with fail
  try simp only [Act.put]
  refine pl_begin ?_
  refine pl_runX (d := some 12) (by rfl) rfl (bs0_rc rfl) ?_
  rintro v2 w2 ⟨hb2, own2⟩
  simp only [nz]
  refine pl_t 13 (?_) (by rfl) ?_ rfl ?_
  rotate_left
  ·go_simp
   try with_reducible rfl
  simp only [nz]
  refine pl_runX (d := some 14) (by rfl) rfl (app_rc (X := ⟨a, cap, xs⟩) rfl rfl rfl own2 hb2.size (h1.below hb2) (Nat.le_trans hx100 (by decide))) ?_
  rintro v3 w3 ⟨own3, g3⟩
  have hb3 : Below w1.heap.size w1 w3 := hb2.grown g3 hb2.size (fun k hk => (own2.lt k hk).1)
  have h3 := h1.below hb3
  obtain ⟨y, rfl, hyx, hyc, hym, hy3⟩ := own_recs own3 hok h3.2 (Nat.le_trans hx100 (by decide))
  obtain ⟨oa, oc, ox⟩ := y
  have hyx : ox = xs := hyx
  subst hyx
  have B3 := hb1.trans (hb3.mono hb1.size)
  clear own3 g3 own2 hb2 hb3 h1 h hb1 hat
  unfold Sl.val
  simp only
  try simp only [nz]
  refine pl_t 3 (?_) (by rfl) ?_ rfl ?_
  rotate_left
  ·go_simp
   try with_reducible rfl
  simp only [nz]
  refine pl_nil ?_
  have cK := ksince_any oa oc ox w3 hy3 hyc hym hx100
  have cX := fun w0 (h0 : Below w3.heap.size w3 w0) => xksince_any a cap ox w0 (h3.below h0) hc hm hx100
  have hL := lastK_le ox ox.length
  have hno := lastK_none ox ox.length
  have hT := rcs_tail h3 (lastK ox ox.length) hL hc
  have hdl : (ox.drop (lastK ox ox.length)).length = ox.length - lastK ox ox.length := List.length_drop
  obtain ⟨L, hLL⟩ : ∃ L, lastK ox ox.length = L := ⟨_, rfl⟩
  rw [hLL] at cK hL hno hT hdl
  simp only [hLL] at cX
  clear hLL
  rw [← hdl] at cX
  have hDk : Hid (∀ i (h : i < (ox.drop L).length), 0 < i → (ox.drop L)[i].k ≠ 5) := hide (fun i h h0 => by
   rw [List.getElem_drop]
   have h2 : L + i < ox.length := by rw [hdl] at h; omega
   have := hno (L + i) (by omega) h2
   rwa [List.getD_eq_getElem?_getD, List.getElem?_eq_getElem h2, Option.getD_some] at this)
  clear hno hdl
  obtain ⟨D, hD⟩ : ∃ D, ox.drop L = D := ⟨_, rfl⟩
  obtain ⟨ta, hta⟩ : ∃ t, tailR a cap L = t := ⟨_, rfl⟩
  obtain ⟨tc, htc⟩ : ∃ t, cap - L = t := ⟨_, rfl⟩
  rw [hD] at cK hDk
  rw [hD, hta, htc] at hT
  simp only [hD, hta, htc] at cX
  have hDl : D.length ≤ 100 := by rw [← hD, List.length_drop]; omega
  clear hD hta htc hL
  go_upto_region 4 with fail
  try simp only [Act.put]
  refine pl_begin ?_
  refine pl_t 15 (?_) (by rfl) ?_ rfl ?_
  rotate_left
  ·go_simp
   try with_reducible rfl
  simp only [nz]
  refine pl_call (d := some 16) (by rfl) (by go_simp; first | done | exact ⟨rfl, rfl⟩ | with_reducible rfl) rfl ?_
  refine (cK).mono ?_
  rintro e4 w4 hN4
  obtain ⟨y, rfl, hyx, hyc2, hym2, hy4, hb4⟩ := hN4
  obtain ⟨ya, yc, yx⟩ := y
  have hyx : yx = D := hyx
  subst hyx
  unfold Sl.val
  simp only
  refine ⟨_, rfl, ?_⟩
  simp only [nz]
  refine pl_t 17 (?_) (by rfl) ?_ rfl ?_
  rotate_left
  ·go_simp
   try with_reducible rfl
  simp only [nz]
  refine pl_call (d := some 18) (by rfl) (by go_simp; first | done | exact ⟨rfl, rfl⟩ | with_reducible rfl) rfl ?_
  refine (cX w4 hb4).mono ?_
  rintro _ w5 ⟨rfl, hx⟩
  obtain rfl := hx.symm
  clear hx
  refine ⟨_, rfl, ?_⟩
  simp only [nz]
  refine pl_t 4 (?_) (by rfl) ?_ rfl ?_
  rotate_left
  ·go_simp
   try with_reducible rfl
  simp only [nz]
  refine pl_t 5 (?_) (by rfl) ?_ rfl ?_
  rotate_left
  ·go_simp
   try with_reducible rfl
  simp only [nz]
  refine pl_nil ?_
  have B4 := B3.trans (hb4.mono B3.size)
  have hXx : ∀ w', Below w4.heap.size w4 w' → RowsAt RcE w' a ox ∧ ∀ r ∈ ox, r.At w' := fun w' h0 => (h3.below hb4).below h0
  have hOx : ∀ w', Below w4.heap.size w4 w' → RowsAt RcE w' oa ox ∧ ∀ r ∈ ox, r.At w' := fun w' h0 => (hy3.below hb4).below h0
  have hYx : ∀ w', Below w4.heap.size w4 w' → RowsAt RcE w' ya yx ∧ ∀ r ∈ yx, r.At w' := fun w' h0 => hy4.below h0
  have hTx : ∀ w', Below w4.heap.size w4 w' → RowsAt RcE w' ta yx ∧ ∀ r ∈ yx, r.At w' := fun w' h0 => (hT.below hb4).below h0
  clear h3 hy3 hy4 hT cK cX hb4 B3 hok
  go_upto_region 5 with fail
  try simp only [Act.put]
  refine pl_begin ?_
  refine pl_t 19 (?_) (by rfl) ?_ rfl ?_
  rotate_left
  ·go_simp
   try with_reducible rfl
  simp only [nz]
  refine pl_t 20 (?_) (by rfl) ?_ rfl ?_
  rotate_left
  ·go_simp
   try with_reducible rfl
  simp only [nz]
  refine pl_t 21 (?_) (by rfl) ?_ rfl ?_
  rotate_left
  ·go_simp
   try with_reducible rfl
  simp only [nz]
  refine pl_t 22 (?_) (by rfl) ?_ rfl ?_
  rotate_left
  ·go_simp
   try with_reducible rfl
  simp only [nz]
  refine pl_t 23 (.bool false) (by rfl) (by go_simp) rfl ?_
  simp only [nz]
  refine pl_nil ?_
  go_upto_region 7 with fail
  try simp only [Act.put]
  refine pl_begin ?_
  refine pl_t 24 (?_) (by rfl) ?_ rfl ?_
  rotate_left
  ·go_simp
   try with_reducible rfl
  simp only [nz]
  refine pl_t 25 (?_) (by rfl) ?_ rfl ?_
  rotate_left
  ·go_simp
   try with_reducible rfl
  simp only [nz]
  refine pl_t 26 (?_) (by rfl) ?_ rfl ?_
  rotate_left
  ·go_simp
   try with_reducible rfl
  simp only [nz]
  refine pl_nil ?_
  have HK0 : Hid (Below w4.heap.size w4 w4) := hide (Below.refl _ _)
  go_wp2_with fail
  go_loopw [26] (fun iv wr => ∃ i : Nat, i ≤ yx.length ∧ iv = .int .i64 (i : Int) ∧ Hid (Below w4.heap.size w4 wr)) (fun iv _ => yx.length - (intOf iv).toNat)
  case atStart => exact ⟨0, by omega, rfl, HK0⟩
  case round =>
   clear HK0
   obtain ⟨i, hi, rfl, HW⟩ := hrel
   have hBr := HW.out
   clear HW
   have hBw := hBr
   by_cases hlt : i < yx.length
   ·have i1 : (i : Int) < yx.length := by omega
    obtain ⟨pb, po, px, pl, pr⟩ := RowsAt.elem (hYx wr hBw).1 i hlt
    have pr : wr.rangeAt pb (po + i * 45) (RcE.f yx[i]) := pr
    obtain ⟨qb, qo, qx, ql, qr⟩ := RowsAt.elem (hTx wr hBw).1 i hlt
    have qr : wr.rangeAt qb (qo + i * 45) (RcE.f yx[i]) := qr
    have px : ya = some ⟨pb, po, none⟩ := px
    have qx : ta = some ⟨qb, qo, none⟩ := qx
    have hok : yx[i].ct.ok := (hYx wr hBw).1.2.1 _ (List.getElem_mem hlt)
    have hat := (hYx wr hBw).2 _ (List.getElem_mem hlt)
    have cS0 := fun w0 (h0 : Below wr.heap.size wr w0) => xksame_any yx[i] yx[i] w0 hok hok (hat.below' h0) (hat.below' h0)
    have iq : (Tryz.prog.info? 33).map (·.size) = some (RcE.f yx[i]).length := by rw [RcE.len _ hok]; exact iszRc
    have ckk := pr 0 _ rfl
    have hkn := hide (fun h0 => hDk.out i hlt h0)
    obtain ⟨gk, hgk⟩ : ∃ k, yx[i].k = k := ⟨_, rfl⟩
    have ck : wr.cell? ⟨pb, po + i * 45, none⟩ = some (.int .i64 gk) := by rw [← hgk]; have := pr 0 _ rfl; rwa [Nat.add_zero] at this
    rw [hgk] at hkn
    clear ckk hgk
    obtain ⟨q1, hq1⟩ : ∃ q, RcE.f yx[i] = q := ⟨_, rfl⟩
    have hcE : yx[i].cells = q1 := hq1
    simp only [Rc.B_refl, hcE] at cS0
    rw [hq1] at pr qr iq
    clear hcE hq1 hat hok
    clear hXx hOx hYx hTx hDk
    subst px
    subst qx
    go_upto_region 9 with fail
    try simp only [Act.put]
    refine pl_begin ?_
    refine pl_t 28 (?_) (by rfl) ?_ rfl ?_
    rotate_left
    ·go_simp
     try with_reducible rfl
    simp only [nz]
    refine pl_t 6 (?_) (by rfl) ?_ rfl ?_
    rotate_left
    ·go_simp
     try with_reducible rfl
    simp only [nz]
    refine pl_nil ?_
    go_upto_region 10 with fail
    refine hs_begin (S := (Below wr.drew.heap.size wr.drew)) 22 rfl (by kernel_rfl) ?_
    have pr8 := (World.rangeAt_drew _ _ _ _).2 pr
    have qr8 := (World.rangeAt_drew _ _ _ _).2 qr
    have pl8 : pb < wr.drew.heap.size := pl
    have ql8 : qb < wr.drew.heap.size := ql
    have hB8 := hBw.drew
    have hBr8 := hBr.drew
    have ck8 : wr.drew.cell? ⟨pb, po + i * 45, none⟩ = some (.int .i64 gk) := ck
    have cS := fun w0 (h0 : Below wr.drew.heap.size wr.drew w0) => cS0 w0 ((Below.refl _ _).drew.trans h0)
    obtain ⟨w8, hw8⟩ : ∃ W, wr.drew = W := ⟨_, rfl⟩
    rw [hw8] at pr8 qr8 pl8 ql8 hB8 hBr8 ck8
    simp only [hw8] at cS ⊢
    clear hw8 cS0 pr qr pl ql hBw hBr
    have hS : (Below w8.heap.size w8) w8 := Below.refl _ _
    by_cases h0 : 0 < i
    ·have h0i : (0 : Int) < (i : Int) := by omega
     have h0b : decide ((0 : Int) < (i : Int)) = true := decide_eq_true h0i
     have hk5 : (gk == 5) = false := by simpa using hkn.out h0
     clear hkn ck
     refine hs_t 0 29 (?_) rfl (by kernel_rfl) (by kernel_rfl) (by kernel_rfl) (by rfl) ?_ hS rfl ?_
     rotate_left
     ·intro w' hw
      go_simp
      try with_reducible rfl
     simp only [nz]
     refine hs_t 1 30 (?_) rfl (by kernel_rfl) (by kernel_rfl) (by kernel_rfl) (by rfl) ?_ hS rfl ?_
     rotate_left
     ·intro w' hw
      go_simp
      try with_reducible rfl
     simp only [nz]
     refine hs_t 2 31 (?_) rfl (by kernel_rfl) (by kernel_rfl) (by kernel_rfl) (by rfl) ?_ hS rfl ?_
     rotate_left
     ·intro w' hw
      go_simp
      try with_reducible rfl
     simp only [nz]
     refine hs_t 3 32 (.agg q1.toArray) rfl (by kernel_rfl) (by kernel_rfl) (by kernel_rfl) (by rfl) (fun w' hw => ex_mid rfl rfl (range_below pr8 hw pl8) Tryz.underlying33 rfl iq) hS rfl ?_
     simp only [nz]
     refine hs_t 4 33 (?_) rfl (by kernel_rfl) (by kernel_rfl) (by kernel_rfl) (by rfl) ?_ hS rfl ?_
     rotate_left
     ·intro w' hw
      go_simp
      try with_reducible rfl
     simp only [nz]
     refine hs_t 5 34 (?_) rfl (by kernel_rfl) (by kernel_rfl) (by kernel_rfl) (by rfl) ?_ hS rfl ?_
     rotate_left
     ·intro w' hw
      go_simp
      try with_reducible rfl
     simp only [nz]
     refine hs_t 6 35 (?_) rfl (by kernel_rfl) (by kernel_rfl) (by kernel_rfl) (by rfl) ?_ hS rfl ?_
     rotate_left
     ·intro w' hw
      go_simp
      try with_reducible rfl
     simp only [nz]
     refine hs_t 7 36 (.agg q1.toArray) rfl (by kernel_rfl) (by kernel_rfl) (by kernel_rfl) (by rfl) (fun w' hw => ex_mid rfl rfl (range_below qr8 hw ql8) Tryz.underlying33 rfl iq) hS rfl ?_
     simp only [nz]
     refine hs_call (i := 8) (d := some 37) rfl (by kernel_rfl) (by rfl) (by go_simp; first | done | exact ⟨rfl, rfl⟩ | with_reducible rfl) rfl ?_
     refine (cS w8 hS).mono ?_
     rintro _ w9 ⟨rfl, hbw9⟩
     have hS : (Below w8.heap.size w8) w9 := hbw9
     refine ⟨_, rfl, hS, ?_⟩
     simp only [nz]
     refine hs_t 9 38 (.bool false) rfl (by kernel_rfl) (by kernel_rfl) (by kernel_rfl) (by rfl) (fun w' hw => by go_simp <;> (try simp [*])) hS rfl ?_
     simp only [nz]
     refine hs_t 10 39 (?_) rfl (by kernel_rfl) (by kernel_rfl) (by kernel_rfl) (by rfl) ?_ hS rfl ?_
     rotate_left
     ·intro w' hw
      go_simp
      try with_reducible rfl
     simp only [nz]
     refine hs_t 11 40 (?_) rfl (by kernel_rfl) (by kernel_rfl) (by kernel_rfl) (by rfl) ?_ hS rfl ?_
     rotate_left
     ·intro w' hw
      go_simp
      try with_reducible rfl
     simp only [nz]
     refine hs_t 12 41 (.bool true) rfl (by kernel_rfl) (by kernel_rfl) (by kernel_rfl) (by rfl) (fun w' hw => by go_simp <;> (try simp [*])) hS rfl ?_
     simp only [nz]
     refine hs_t 13 42 (?_) rfl (by kernel_rfl) (by kernel_rfl) (by kernel_rfl) (by rfl) ?_ hS rfl ?_
     rotate_left
     ·intro w' hw
      go_simp
      try with_reducible rfl
     simp only [nz]
     refine hs_t 14 43 (?_) rfl (by kernel_rfl) (by kernel_rfl) (by kernel_rfl) (by rfl) ?_ hS rfl ?_
     rotate_left
     ·intro w' hw
      go_simp
      try with_reducible rfl
     simp only [nz]
     refine hs_t 15 44 (?_) rfl (by kernel_rfl) (by kernel_rfl) (by kernel_rfl) (by rfl) ?_ hS rfl ?_
     rotate_left
     ·intro w' hw
      go_simp
      try with_reducible rfl
     simp only [nz]
     refine hs_t 16 45 (?_) rfl (by kernel_rfl) (by kernel_rfl) (by kernel_rfl) (by rfl) ?_ hS rfl ?_
     rotate_left
     ·intro w' hw
      go_simp
      try with_reducible rfl
     simp only [nz]
     refine hs_t 17 46 (?_) rfl (by kernel_rfl) (by kernel_rfl) (by kernel_rfl) (by rfl) ?_ hS rfl ?_
     rotate_left
     ·intro w' hw
      go_simp
      try with_reducible rfl
     simp only [nz]
     refine hs_t 18 47 (.int .i64 gk) rfl (by kernel_rfl) (by kernel_rfl) (by kernel_rfl) (by rfl) (fun w' hw => pl_one rfl rfl ((hw.cell (p := ⟨pb, po + i * 45, none⟩) pl8).trans ck8) Tryz.underlying3 rfl) hS rfl ?_
     simp only [nz]
     refine hs_t 19 48 (.bool false) rfl (by kernel_rfl) (by kernel_rfl) (by kernel_rfl) (by rfl) (fun w' hw => by go_simp <;> (try simp [*])) hS rfl ?_
     simp only [nz]
     refine hs_t 20 49 (.bool false) rfl (by kernel_rfl) (by kernel_rfl) (by kernel_rfl) (by rfl) (fun w' hw => by go_simp <;> (try simp [*])) hS rfl ?_
     simp only [nz]
     refine hs_t 21 50 (.bool false) rfl (by kernel_rfl) (by kernel_rfl) (by kernel_rfl) (by rfl) (fun w' hw => by go_simp <;> (try simp [*])) hS rfl ?_
     simp only [nz]
     refine hs_done (by kernel_rfl) ?_
     clear ck8
     have HN : Hid (Below w4.heap.size w4 w9) := hide (hBr8.trans (hS.mono hBr8.size))
     clear hS hBr8 hB8 pr8 qr8 cS hbw9
     go_wp2_with fail
     go_roundw
     case rel => exact ⟨i + 1, by omega, by go_num, HN⟩
     case measure => simp [intOf]; omega
    ·have h0b : decide ((0 : Int) < (i : Int)) = false := decide_eq_false (by omega)
     clear hkn ck ck8
     refine hs_t 0 29 (?_) rfl (by kernel_rfl) (by kernel_rfl) (by kernel_rfl) (by rfl) ?_ hS rfl ?_
     rotate_left
     ·intro w' hw
      go_simp
      try with_reducible rfl
     simp only [nz]
     refine hs_t 1 30 (?_) rfl (by kernel_rfl) (by kernel_rfl) (by kernel_rfl) (by rfl) ?_ hS rfl ?_
     rotate_left
     ·intro w' hw
      go_simp
      try with_reducible rfl
     simp only [nz]
     refine hs_t 2 31 (?_) rfl (by kernel_rfl) (by kernel_rfl) (by kernel_rfl) (by rfl) ?_ hS rfl ?_
     rotate_left
     ·intro w' hw
      go_simp
      try with_reducible rfl
     simp only [nz]
     refine hs_t 3 32 (.agg q1.toArray) rfl (by kernel_rfl) (by kernel_rfl) (by kernel_rfl) (by rfl) (fun w' hw => ex_mid rfl rfl (range_below pr8 hw pl8) Tryz.underlying33 rfl iq) hS rfl ?_
     simp only [nz]
     refine hs_t 4 33 (?_) rfl (by kernel_rfl) (by kernel_rfl) (by kernel_rfl) (by rfl) ?_ hS rfl ?_
     rotate_left
     ·intro w' hw
      go_simp
      try with_reducible rfl
     simp only [nz]
     refine hs_t 5 34 (?_) rfl (by kernel_rfl) (by kernel_rfl) (by kernel_rfl) (by rfl) ?_ hS rfl ?_
     rotate_left
     ·intro w' hw
      go_simp
      try with_reducible rfl
     simp only [nz]
     refine hs_t 6 35 (?_) rfl (by kernel_rfl) (by kernel_rfl) (by kernel_rfl) (by rfl) ?_ hS rfl ?_
     rotate_left
     ·intro w' hw
      go_simp
      try with_reducible rfl
     simp only [nz]
     refine hs_t 7 36 (.agg q1.toArray) rfl (by kernel_rfl) (by kernel_rfl) (by kernel_rfl) (by rfl) (fun w' hw => ex_mid rfl rfl (range_below qr8 hw ql8) Tryz.underlying33 rfl iq) hS rfl ?_
     simp only [nz]
     refine hs_call (i := 8) (d := some 37) rfl (by kernel_rfl) (by rfl) (by go_simp; first | done | exact ⟨rfl, rfl⟩ | with_reducible rfl) rfl ?_
     refine (cS w8 hS).mono ?_
     rintro _ w9 ⟨rfl, hbw9⟩
     have hS : (Below w8.heap.size w8) w9 := hbw9
     refine ⟨_, rfl, hS, ?_⟩
     simp only [nz]
     refine hs_t 9 38 (.bool false) rfl (by kernel_rfl) (by kernel_rfl) (by kernel_rfl) (by rfl) (fun w' hw => by go_simp <;> (try simp [*])) hS rfl ?_
     simp only [nz]
     refine hs_t 10 39 (?_) rfl (by kernel_rfl) (by kernel_rfl) (by kernel_rfl) (by rfl) ?_ hS rfl ?_
     rotate_left
     ·intro w' hw
      go_simp
      try with_reducible rfl
     simp only [nz]
     refine hs_t 11 40 (?_) rfl (by kernel_rfl) (by kernel_rfl) (by kernel_rfl) (by rfl) ?_ hS rfl ?_
     rotate_left
     ·intro w' hw
      go_simp
      try with_reducible rfl
     simp only [nz]
     refine hs_t 12 41 (.bool false) rfl (by kernel_rfl) (by kernel_rfl) (by kernel_rfl) (by rfl) (fun w' hw => by go_simp <;> (try simp [*])) hS rfl ?_
     simp only [nz]
     refine hs_t 13 42 (?_) rfl (by kernel_rfl) (by kernel_rfl) (by kernel_rfl) (by rfl) ?_ hS rfl ?_
     rotate_left
     ·intro w' hw
      go_simp
      try with_reducible rfl
     simp only [nz]
     refine hs_skip (i := 14) (d := some 43) rfl (by kernel_rfl) (by kernel_rfl) (by kernel_rfl) (by rfl) hS rfl ?_
     simp only [nz]
     refine hs_skip (i := 15) (d := some 44) rfl (by kernel_rfl) (by kernel_rfl) (by kernel_rfl) (by rfl) hS rfl ?_
     simp only [nz]
     refine hs_skip (i := 16) (d := some 45) rfl (by kernel_rfl) (by kernel_rfl) (by kernel_rfl) (by rfl) hS rfl ?_
     simp only [nz]
     refine hs_skip (i := 17) (d := some 46) rfl (by kernel_rfl) (by kernel_rfl) (by kernel_rfl) (by rfl) hS rfl ?_
     simp only [nz]
     refine hs_skip (i := 18) (d := some 47) rfl (by kernel_rfl) (by kernel_rfl) (by kernel_rfl) (by rfl) hS rfl ?_
     simp only [nz]
     refine hs_skip (i := 19) (d := some 48) rfl (by kernel_rfl) (by kernel_rfl) (by kernel_rfl) (by rfl) hS rfl ?_
     simp only [nz]
     refine hs_t 20 49 (.bool false) rfl (by kernel_rfl) (by kernel_rfl) (by kernel_rfl) (by rfl) (fun w' hw => by go_simp <;> (try simp [*])) hS rfl ?_
     simp only [nz]
     refine hs_t 21 50 (.bool false) rfl (by kernel_rfl) (by kernel_rfl) (by kernel_rfl) (by rfl) (fun w' hw => by go_simp <;> (try simp [*])) hS rfl ?_
     simp only [nz]
     refine hs_done (by kernel_rfl) ?_
     have HN : Hid (Below w4.heap.size w4 w9) := hide (hBr8.trans (hS.mono hBr8.size))
     clear hS hBr8 hB8 pr8 qr8 cS hbw9
     go_wp2_with fail
     go_roundw
     case rel => exact ⟨i + 1, by omega, by go_num, HN⟩
     case measure => simp [intOf]; omega
   ·obtain rfl : i = yx.length := by omega
    clear hYx hTx hDk
    obtain ⟨V, hV⟩ : ∃ V, wr = V := ⟨_, rfl⟩
    rw [hV] at hBr hBw ⊢
    clear hV
    have B5 := B4.trans (hBr.mono B4.size)
    have hXv : ∀ w', Below V.heap.size V w' → RowsAt RcE w' a ox ∧ ∀ r ∈ ox, r.At w' := fun w' h0 => hXx w' (hBr.trans (h0.mono hBr.size))
    have hOv : ∀ w', Below V.heap.size V w' → RowsAt RcE w' oa ox ∧ ∀ r ∈ ox, r.At w' := fun w' h0 => hOx w' (hBr.trans (h0.mono hBr.size))
    clear hXx hOx hBr hBw B4
    go_upto_region 13 with fail
    try simp only [Act.put]
    refine pl_begin ?_
    refine pl_t 52 (?_) (by rfl) ?_ rfl ?_
    rotate_left
    ·go_simp
     try with_reducible rfl
    simp only [nz]
    refine pl_t 53 (?_) (by rfl) ?_ rfl ?_
    rotate_left
    ·go_simp
     try with_reducible rfl
    simp only [nz]
    refine pl_t 54 (?_) (by rfl) ?_ rfl ?_
    rotate_left
    ·go_simp
     try with_reducible rfl
    simp only [nz]
    refine pl_nil ?_
    have HK0 : Hid (Below V.heap.size V V) := hide (Below.refl _ _)
    go_wp2_with fail
    go_loopw [54] (fun iv wr => ∃ i : Nat, i ≤ ox.length ∧ iv = .int .i64 (i : Int) ∧ Hid (Below V.heap.size V wr)) (fun iv _ => ox.length - (intOf iv).toNat)
    case atStart => exact ⟨0, by omega, rfl, HK0⟩
    case round =>
     clear HK0
     obtain ⟨i, hi, rfl, HW⟩ := hrel
     have hBr := HW.out
     clear HW
     have hBw := hBr
     by_cases hlt : i < ox.length
     ·have i1 : (i : Int) < ox.length := by omega
      obtain ⟨pb, po, px, pl, pr⟩ := RowsAt.elem (hOv wr hBw).1 i hlt
      have pr : wr.rangeAt pb (po + i * 45) (RcE.f ox[i]) := pr
      obtain ⟨qb, qo, qx, ql, qr⟩ := RowsAt.elem (hXv wr hBw).1 i hlt
      have qr : wr.rangeAt qb (qo + i * 45) (RcE.f ox[i]) := qr
      have px : oa = some ⟨pb, po, none⟩ := px
      have qx : a = some ⟨qb, qo, none⟩ := qx
      have hok : ox[i].ct.ok := (hOv wr hBw).1.2.1 _ (List.getElem_mem hlt)
      have hat := (hOv wr hBw).2 _ (List.getElem_mem hlt)
      have cS0 := fun w0 (h0 : Below wr.heap.size wr w0) => xksame_any ox[i] ox[i] w0 hok hok (hat.below' h0) (hat.below' h0)
      have iq : (Tryz.prog.info? 33).map (·.size) = some (RcE.f ox[i]).length := by rw [RcE.len _ hok]; exact iszRc
      obtain ⟨q1, hq1⟩ : ∃ q, RcE.f ox[i] = q := ⟨_, rfl⟩
      have hcE : ox[i].cells = q1 := hq1
      simp only [Rc.B_refl, hcE] at cS0
      rw [hq1] at pr qr iq
      clear hcE hq1 hat hok
      clear hXv hOv
      subst px
      subst qx
      go_upto_region 15 with fail
      try simp only [Act.put]
      refine pl_begin ?_
      refine pl_t 56 (?_) (by rfl) ?_ rfl ?_
      rotate_left
      ·go_simp
       try with_reducible rfl
      simp only [nz]
      refine pl_t 7 (?_) (by rfl) ?_ rfl ?_
      rotate_left
      ·go_simp
       try with_reducible rfl
      simp only [nz]
      refine pl_nil ?_
      go_upto_region 16 with fail
      refine hs_begin (S := (Below wr.drew.heap.size wr.drew)) 10 rfl (by kernel_rfl) ?_
      have pr8 := (World.rangeAt_drew _ _ _ _).2 pr
      have qr8 := (World.rangeAt_drew _ _ _ _).2 qr
      have pl8 : pb < wr.drew.heap.size := pl
      have ql8 : qb < wr.drew.heap.size := ql
      have hB8 := hBw.drew
      have hBr8 := hBr.drew
      skip
      have cS := fun w0 (h0 : Below wr.drew.heap.size wr.drew w0) => cS0 w0 ((Below.refl _ _).drew.trans h0)
      obtain ⟨w8, hw8⟩ : ∃ W, wr.drew = W := ⟨_, rfl⟩
      rw [hw8] at pr8 qr8 pl8 ql8 hB8 hBr8
      simp only [hw8] at cS ⊢
      clear hw8 cS0 pr qr pl ql hBw hBr
      have hS : (Below w8.heap.size w8) w8 := Below.refl _ _
      refine hs_t 0 57 (?_) rfl (by kernel_rfl) (by kernel_rfl) (by kernel_rfl) (by rfl) ?_ hS rfl ?_
      rotate_left
      ·intro w' hw
       go_simp
       try with_reducible rfl
      simp only [nz]
      refine hs_t 1 58 (?_) rfl (by kernel_rfl) (by kernel_rfl) (by kernel_rfl) (by rfl) ?_ hS rfl ?_
      rotate_left
      ·intro w' hw
       go_simp
       try with_reducible rfl
      simp only [nz]
      refine hs_t 2 59 (?_) rfl (by kernel_rfl) (by kernel_rfl) (by kernel_rfl) (by rfl) ?_ hS rfl ?_
      rotate_left
      ·intro w' hw
       go_simp
       try with_reducible rfl
      simp only [nz]
      refine hs_t 3 60 (.agg q1.toArray) rfl (by kernel_rfl) (by kernel_rfl) (by kernel_rfl) (by rfl) (fun w' hw => ex_mid rfl rfl (range_below pr8 hw pl8) Tryz.underlying33 rfl iq) hS rfl ?_
      simp only [nz]
      refine hs_t 4 61 (?_) rfl (by kernel_rfl) (by kernel_rfl) (by kernel_rfl) (by rfl) ?_ hS rfl ?_
      rotate_left
      ·intro w' hw
       go_simp
       try with_reducible rfl
      simp only [nz]
      refine hs_t 5 62 (?_) rfl (by kernel_rfl) (by kernel_rfl) (by kernel_rfl) (by rfl) ?_ hS rfl ?_
      rotate_left
      ·intro w' hw
       go_simp
       try with_reducible rfl
      simp only [nz]
      refine hs_t 6 63 (?_) rfl (by kernel_rfl) (by kernel_rfl) (by kernel_rfl) (by rfl) ?_ hS rfl ?_
      rotate_left
      ·intro w' hw
       go_simp
       try with_reducible rfl
      simp only [nz]
      refine hs_t 7 64 (.agg q1.toArray) rfl (by kernel_rfl) (by kernel_rfl) (by kernel_rfl) (by rfl) (fun w' hw => ex_mid rfl rfl (range_below qr8 hw ql8) Tryz.underlying33 rfl iq) hS rfl ?_
      simp only [nz]
      refine hs_call (i := 8) (d := some 65) rfl (by kernel_rfl) (by rfl) (by go_simp; first | done | exact ⟨rfl, rfl⟩ | with_reducible rfl) rfl ?_
      refine (cS w8 hS).mono ?_
      rintro _ w9 ⟨rfl, hbw9⟩
      have hS : (Below w8.heap.size w8) w9 := hbw9
      refine ⟨_, rfl, hS, ?_⟩
      simp only [nz]
      refine hs_t 9 66 (.bool false) rfl (by kernel_rfl) (by kernel_rfl) (by kernel_rfl) (by rfl) (fun w' hw => by go_simp <;> (try simp [*])) hS rfl ?_
      simp only [nz]
      refine hs_done (by kernel_rfl) ?_
      have HN : Hid (Below V.heap.size V w9) := hide (hBr8.trans (hS.mono hBr8.size))
      clear hS hBr8 hB8 pr8 qr8 cS hbw9
      go_wp2_with fail
      go_roundw
      case rel => exact ⟨i + 1, by omega, by go_num, HN⟩
      case measure => simp [intOf]; omega
     ·obtain rfl : i = ox.length := by omega
      clear hXv hOv
      go_upto_region 19 with fail
      try simp only [Act.put]
      refine pl_begin ?_
      refine pl_call (d := some 68) (by rfl) (by go_simp; first | done | exact ⟨rfl, rfl⟩ | with_reducible rfl) rfl ?_
      refine (lives24_any wr).mono ?_
      rintro _ w9 ⟨rfl, hb9⟩
      refine ⟨_, rfl, ?_⟩
      simp only [nz]
      refine pl_t 2 (?_) (by rfl) ?_ rfl ?_
      rotate_left
      ·go_simp
       try with_reducible rfl
      simp only [nz]
      refine pl_nil ?_
      have HB := hide (B5.trans ((hBr.trans (hb9.mono hBr.size)).mono B5.size))
      go_wp2_with fail
      go_ret
      exact ⟨rfl, HB.out⟩
end Go.Proofs.YtinndbipomlokaaGreat
namespace Go.Proofs.YtinndbipomlokaaGreat
open Go.ChangeShapes Go.WideShapes Go.ChangeAt Go.RowKit
open Sha Tal
set_option linter.unusedVariables false
set_option linter.constructorNameAsVariable false
theorem own : ownKnob Tryz.prog.godebug = none := by kernel_rfl
theorem laidOut : laidOutB Tryz.prog = true := by kernel_rfl
theorem wf64 {z : Int} (h : (Lit.int .i64 z).wf = true) : -9223372036854775808 ≤ z ∧ z ≤ 9223372036854775807 := by
 simp only [Lit.wf, Bool.and_eq_true, decide_eq_true_eq] at h
 exact h
theorem some_at {α : Type} {xs : List α} {n i : Nat} (hl : xs.length = n) (hi : i < n) : ∃ y, xs[i]? = some y := ⟨xs[i]'(by omega), List.getElem?_eq_getElem (by omega)⟩
theorem drop_one {α : Type} {l : List α} {o : Nat} {v : α} (h : (l.drop o).take 1 = [v]) : l[o]? = some v := by
 have := congrArg (·[0]?) h
 simpa [List.getElem?_take, List.getElem?_drop] using this
section
variable {H : Type} {enc : TypeId × Value → H} {W : World} {b : Nat} {sp : Nat → Bool} {held : Bool} {m : Nat}
theorem int_at {l : List Value} {o : Nat} {y : DataW H × List MemPlace} (h : DataW.trod enc Tryz.prog W b sp held m 3 ((l.drop o).take 1) = some y) : ∃ z, l[o]? = some (.int .i64 z) ∧ -9223372036854775808 ≤ z ∧ z ≤ 9223372036854775807 := by
 obtain ⟨z, hc, rfl, hw⟩ := DataW.trod_int Tryz.underlying3 h
 exact ⟨z, drop_one hc, wf64 hw⟩
theorem bytes_at {t n : Nat} {l : List Value} {y : DataW H × List MemPlace} (hu : Tryz.prog.underlying t = some (.array n 5)) (hct : Tryz.prog.cellsOf t = n) (h : DataW.trod enc Tryz.prog W b sp held m t l = some y) : ∃ zs : List Int, l = v8 zs ∧ zs.length = n ∧ ∀ z ∈ zs, 0 ≤ z ∧ z < 256 := by
 have hce : Tryz.prog.cellsOf 5 = 1 := by kernel_rfl
 cases m with
 | zero => simp [DataW.trod] at h
 | succ m =>
  simp only [DataW.trod, hu, hce, hct, Nat.mul_one] at h
  split at h
  ·rename_i hsz
   obtain ⟨xs, hm, hx⟩ := Option.map_eq_some_iff.1 h
   have key : ∀ i, i < n → ∃ z, l[i]? = some (.int .u8 z) ∧ 0 ≤ z ∧ z < 256 := fun i hi => by
    obtain ⟨y, hy, hf⟩ := Lib.mapM_at hm i i (by simp [hi])
    obtain ⟨z, hc, rfl, hw⟩ := DataW.trod_int Tryz.underlying5 hf
    refine ⟨z, drop_one hc, ?_⟩
    simp [Lit.wf, IntKind.min, IntKind.max, IntKind.signed, IntKind.bits] at hw
    omega
   have hln : l.length = n := by simpa using hsz
   refine ⟨l.map (fun v => match v with | .int _ z => z | _ => 0), ?_, by simpa using hln, ?_⟩
   ·apply List.ext_getElem?
    intro i
    by_cases hi : i < n
    ·obtain ⟨z, hz, _⟩ := key i hi
     simp only [v8, List.map_map, List.getElem?_map, hz, Option.map_some]
     rfl
    ·rw [List.getElem?_eq_none (by omega), List.getElem?_eq_none (by simp [v8]; omega)]
   ·intro z hz
    obtain ⟨u, hu, rfl⟩ := List.mem_map.1 hz
    obtain ⟨i, hi, rfl⟩ := List.mem_iff_getElem.1 hu
    obtain ⟨z, hz, hb⟩ := key i (by omega)
    rw [List.getElem?_eq_getElem hi] at hz
    rw [Option.some.inj hz]
    exact hb
  ·cases h
end
set_option maxRecDepth 100000 in
theorem vote_of {H : Type} {enc : TypeId × Value → H} {W : World} {b : Nat} {sp : Nat → Bool} {held : Bool} {fuel : Nat} {l : List Value} {x : DataW H × List MemPlace}
  (h : DataW.trod enc Tryz.prog W b sp held fuel 28 l = some x) : ∃ r : Vt, l = r.cells ∧ r.ok := by
 have hct : Tryz.prog.cellsOf 28 = 36 := by kernel_rfl
 have hci : Tryz.prog.cellsOf 3 = 1 := by kernel_rfl
 have hcg : Tryz.prog.cellsOf 26 = 32 := by kernel_rfl
 obtain ⟨xs, m, _, rfl, hcl, hl, hf⟩ := DataW.trod_struct Tryz.underlying28 h
 rw [hct] at hcl
 have hl : xs.length = 5 := hl
 have h0 : DataW.trod enc Tryz.prog W b sp held m 3 ((l.drop 0).take (Tryz.prog.cellsOf 3)) = xs[0]? := hf 0 _ rfl
 have h1 : DataW.trod enc Tryz.prog W b sp held m 3 ((l.drop 1).take (Tryz.prog.cellsOf 3)) = xs[1]? := hf 1 _ rfl
 have h2 : DataW.trod enc Tryz.prog W b sp held m 3 ((l.drop 2).take (Tryz.prog.cellsOf 3)) = xs[2]? := hf 2 _ rfl
 have h3 : DataW.trod enc Tryz.prog W b sp held m 3 ((l.drop 3).take (Tryz.prog.cellsOf 3)) = xs[3]? := hf 3 _ rfl
 have h4 : DataW.trod enc Tryz.prog W b sp held m 26 ((l.drop 4).take (Tryz.prog.cellsOf 26)) = xs[4]? := hf 4 _ rfl
 rw [hci] at h0 h1 h2 h3
 rw [hcg] at h4
 obtain ⟨y0, e0⟩ := some_at hl (show 0 < 5 by omega)
 obtain ⟨y1, e1⟩ := some_at hl (show 1 < 5 by omega)
 obtain ⟨y2, e2⟩ := some_at hl (show 2 < 5 by omega)
 obtain ⟨y3, e3⟩ := some_at hl (show 3 < 5 by omega)
 obtain ⟨y4, e4⟩ := some_at hl (show 4 < 5 by omega)
 obtain ⟨k, g0, _, b0⟩ := int_at (h0.trans e0)
 obtain ⟨ep, g1, _, b1⟩ := int_at (h1.trans e1)
 obtain ⟨vi, g2, _, b2⟩ := int_at (h2.trans e2)
 obtain ⟨sl, g3, _, b3⟩ := int_at (h3.trans e3)
 obtain ⟨d, g4, hd, hb⟩ := bytes_at Tryz.underlying26 hcg (h4.trans e4)
 refine ⟨⟨k, ep, vi, sl, d⟩, ?_, ⟨b0, b1, b2, b3, hd, hb⟩⟩
 show l = .int .i64 k :: .int .i64 ep :: .int .i64 vi :: .int .i64 sl :: v8 d
 match l, hcl with
 | a0 :: a1 :: a2 :: a3 :: l, hcl =>
  simp at g0 g1 g2 g3 hcl
  have : List.take 32 l = v8 d := g4
  rw [List.take_of_length_le (by omega)] at this
  subst g0 g1 g2 g3 this
  rfl
theorem cells_some {w : World} {base n : Nat} {x : Addr} {cs : List Value} (h : w.cells? base x n = some cs) : cs.length = n ∧ ∀ j v, cs[j]? = some v → w.cell? (x.add j) = some v := by
 unfold World.cells? at h
 split at h
 ·have hl := Lib.mapM_length h
  refine ⟨by simpa using hl, fun j v hv => ?_⟩
  have hj : j < n := by
   have := (List.getElem?_eq_some_iff.1 hv).1
   have : cs.length = n := by simpa using hl
   omega
  obtain ⟨y, hy, hf⟩ := Lib.mapM_at h j j (by simp [hj])
  rw [hv] at hy
  exact hf.trans hy.symm
 ·cases h
theorem flat_getA {α : Type} {f : α → List Value} {k : Nat} (hk : 0 < k) (R : Nat → α) : ∀ (n : Nat), (∀ i, i < n → (f (R i)).length = k) → ∀ j, j < n * k → (((List.range n).map R).flatMap f)[j]? = (f (R (j / k)))[j % k]? := by
 intro n
 induction n with
 | zero => intro _ j hj; omega
 | succ n ih =>
  intro hR j hj
  have hl : (((List.range n).map R).flatMap f).length = n * k := by
   have := flat_len_k (f := f) (k := k) (ys := (List.range n).map R) (fun y hy => by
    obtain ⟨i, hi, rfl⟩ := List.mem_map.1 hy
    exact hR i (by have := List.mem_range.1 hi; omega))
   simpa using this
  rw [List.range_succ, List.map_append, List.flatMap_append]
  by_cases h : j < n * k
  ·rw [List.getElem?_append_left (by omega), ih (fun i hi => hR i (by omega)) j h]
  ·rw [List.getElem?_append_right (by omega), hl]
   have e0 : j = (j - n * k) + k * n := by rw [Nat.mul_comm k n]; omega
   have hlt : j - n * k < k := by rw [Nat.add_mul, Nat.one_mul] at hj; omega
   have e1 : j / k = n := by rw [e0, Nat.add_mul_div_left _ _ hk, Nat.div_eq_of_lt hlt]; omega
   have e2 : j % k = j - n * k := by
    have := congrArg (· % k) e0
    simp only [Nat.add_mul_mod_self_left] at this
    rw [this, Nat.mod_eq_of_lt hlt]
   rw [e1, e2]
   simp
set_option maxRecDepth 100000 in
theorem rows_of {α : Type} [Inhabited α] (f : α → List Value) (ok : α → Prop) (k : Nat) (hk : 0 < k) (tl te : TypeId) (hu : Tryz.prog.underlying tl = some (.slice te)) (hct : Tryz.prog.cellsOf te = k) (hf : ∀ y, ok y → (f y).length = k)
  {H : Type} {enc : TypeId × Value → H} {W : World} {b : Nat} {sp : Nat → Bool} {held : Bool} {fuel : Nat} {l : List Value} {x : DataW H × List MemPlace}
  (hel : ∀ (m : Nat) (l : List Value) (z : DataW H × List MemPlace), DataW.trod enc Tryz.prog W b sp held m te l = some z → ∃ y, l = f y ∧ ok y)
  (h : DataW.trod enc Tryz.prog W b sp held fuel tl l = some x) : ∃ (a : Option Addr) (cap : Nat) (ys : List α), l = [.slice a ys.length cap] ∧ ys.length ≤ cap ∧ cap ≤ maxLen ∧ (∀ y ∈ ys, ok y) ∧ RowOf f W a ys := by
 rcases Deep.open_slice hu h with ⟨rfl, _⟩ | ⟨a, len, cap, m, n, D, Pl, rfl, hb, hlc, hcm, hm, _, hel2⟩
 ·exact ⟨none, 0, [], rfl, by simp, by simp, by simp, .inl rfl⟩
 ·rw [hct] at hel2
  have hml : len ≤ m := by rw [hm]; split <;> omega
  have key : ∀ i, i < len → ∃ y : α, W.cells? b (a.add (i * k)) k = some (f y) ∧ ok y := fun i hi => by
   obtain ⟨cs, h1, h2⟩ := hel2 i (by omega)
   obtain ⟨y, rfl, hy⟩ := hel _ _ _ h2
   exact ⟨y, h1, hy⟩
  obtain ⟨R, hR⟩ := Deep.choose_lt key
  refine ⟨some a, cap, (List.range len).map R, by simp, by simpa using hlc, hcm, ?_, ?_⟩
  ·intro y hy
   obtain ⟨i, hi, rfl⟩ := List.mem_map.1 hy
   exact (hR i (List.mem_range.1 hi)).2
  ·by_cases h0 : len = 0
   ·left; simp [h0]
   ·right
    obtain ⟨bb, off, spot⟩ := a
    have hlen0 := hf _ (hR 0 (by omega)).2
    have hc := (cells_some (hR 0 (by omega)).1).2 0 ((f (R 0))[0]'(by omega)) (List.getElem?_eq_getElem _)
    have hspot : spot = none := by simpa [Addr.add] using World.cell?_spot hc
    subst hspot
    refine ⟨bb, off, rfl, ?_, fun j v hv => ?_⟩
    ·have := World.block_lt_of_cell? W _ hc; simpa [Addr.add] using this
    ·have hj : j < len * k := by
      have := (List.getElem?_eq_some_iff.1 hv).1
      rw [flat_len_k (k := k)] at this
      ·simpa using this
      ·intro y hy
       obtain ⟨i, hi, rfl⟩ := List.mem_map.1 hy
       exact hf _ (hR i (List.mem_range.1 hi)).2
     rw [flat_getA hk R len (fun i hi => hf _ (hR i hi).2) j hj] at hv
     have hdm : j / k < len := (Nat.div_lt_iff_lt_mul hk).2 hj
     have := (cells_some (hR (j / k) hdm).1).2 _ _ hv
     rw [Addr.add_mid, Addr.add_mid] at this
     rw [← this]
     congr 2
     have := Nat.div_add_mod j k
     rw [Nat.mul_comm] at this
     omega
theorem take_cut {α : Type} (l : List α) (o n k : Nat) : (l.drop o).take (n + k) = (l.drop o).take n ++ (l.drop (o + n)).take k := by
 rw [List.take_add, List.drop_drop]
theorem take_whole {α : Type} {l : List α} {n : Nat} (h : l.length = n) : l = (l.drop 0).take n := by
 rw [List.drop_zero, List.take_of_length_le (by omega)]
set_option maxRecDepth 100000 in
theorem sign_of {H : Type} {enc : TypeId × Value → H} {W : World} {b : Nat} {sp : Nat → Bool} {held : Bool} {fuel : Nat} {l : List Value} {x : DataW H × List MemPlace}
  (h : DataW.trod enc Tryz.prog W b sp held fuel 110 l = some x) : ∃ r : Sg, l = SgE.f r ∧ SgE.ok r := by
 have hct : Tryz.prog.cellsOf 110 = 17 := by kernel_rfl
 obtain ⟨xs, m, _, rfl, hcl, hl, hf⟩ := DataW.trod_struct Tryz.underlying110 h
 rw [hct] at hcl
 have hl : xs.length = 2 := hl
 have h0 : DataW.trod enc Tryz.prog W b sp held m 3 ((l.drop 0).take (Tryz.prog.cellsOf 3)) = xs[0]? := hf 0 _ rfl
 rw [show Tryz.prog.cellsOf 3 = 1 by kernel_rfl] at h0
 obtain ⟨y0, e0⟩ := some_at hl (show 0 < 2 by omega)
 obtain ⟨z0, g0, _, wz0⟩ := DataW.trod_int Tryz.underlying3 (h0.trans e0)
 have bz0 := wf64 wz0
 have h1 : DataW.trod enc Tryz.prog W b sp held m 89 ((l.drop 1).take (Tryz.prog.cellsOf 89)) = xs[1]? := hf 1 _ rfl
 rw [show Tryz.prog.cellsOf 89 = 16 by kernel_rfl] at h1
 obtain ⟨y1, e1⟩ := some_at hl (show 1 < 2 by omega)
 obtain ⟨z1, g1, lz1, bz1⟩ := bytes_at Tryz.underlying89 (by kernel_rfl) (h1.trans e1)
 refine ⟨⟨z0, z1⟩, ?_, ⟨lz1, bz1, bz0.1, bz0.2⟩⟩
 have e := take_whole (n := 1 + (16)) hcl
 rw [take_cut, g0, g1] at e
 first | exact e | (rw [e]; rfl) | (rw [e]; simp)
set_option maxRecDepth 100000 in
theorem req_of {H : Type} {enc : TypeId × Value → H} {W : World} {b : Nat} {sp : Nat → Bool} {held : Bool} {fuel : Nat} {l : List Value} {x : DataW H × List MemPlace}
  (h : DataW.trod enc Tryz.prog W b sp held fuel 91 l = some x) : ∃ r : Rq, l = RqE.f r ∧ RqE.ok r := by
 have hct : Tryz.prog.cellsOf 91 = 19 := by kernel_rfl
 obtain ⟨xs, m, _, rfl, hcl, hl, hf⟩ := DataW.trod_struct Tryz.underlying91 h
 rw [hct] at hcl
 have hl : xs.length = 4 := hl
 have h0 : DataW.trod enc Tryz.prog W b sp held m 3 ((l.drop 0).take (Tryz.prog.cellsOf 3)) = xs[0]? := hf 0 _ rfl
 rw [show Tryz.prog.cellsOf 3 = 1 by kernel_rfl] at h0
 obtain ⟨y0, e0⟩ := some_at hl (show 0 < 4 by omega)
 obtain ⟨z0, g0, _, wz0⟩ := DataW.trod_int Tryz.underlying3 (h0.trans e0)
 have bz0 := wf64 wz0
 have h1 : DataW.trod enc Tryz.prog W b sp held m 3 ((l.drop 1).take (Tryz.prog.cellsOf 3)) = xs[1]? := hf 1 _ rfl
 rw [show Tryz.prog.cellsOf 3 = 1 by kernel_rfl] at h1
 obtain ⟨y1, e1⟩ := some_at hl (show 1 < 4 by omega)
 obtain ⟨z1, g1, _, wz1⟩ := DataW.trod_int Tryz.underlying3 (h1.trans e1)
 have bz1 := wf64 wz1
 have h2 : DataW.trod enc Tryz.prog W b sp held m 9 ((l.drop 2).take (Tryz.prog.cellsOf 9)) = xs[2]? := hf 2 _ rfl
 rw [show Tryz.prog.cellsOf 9 = 1 by kernel_rfl] at h2
 obtain ⟨y2, e2⟩ := some_at hl (show 2 < 4 by omega)
 obtain ⟨z2, g2, _, bz2⟩ := DataW.trod_string Tryz.underlying9 (h2.trans e2)
 have h3 : DataW.trod enc Tryz.prog W b sp held m 89 ((l.drop 3).take (Tryz.prog.cellsOf 89)) = xs[3]? := hf 3 _ rfl
 rw [show Tryz.prog.cellsOf 89 = 16 by kernel_rfl] at h3
 obtain ⟨y3, e3⟩ := some_at hl (show 3 < 4 by omega)
 obtain ⟨z3, g3, lz3, bz3⟩ := bytes_at Tryz.underlying89 (by kernel_rfl) (h3.trans e3)
 refine ⟨⟨z0, z1, z2, z3⟩, ?_, ⟨lz3, bz3, bz2, bz0.1, bz0.2, bz1.1, bz1.2⟩⟩
 have e := take_whole (n := 1 + (1 + (1 + (16)))) hcl
 rw [take_cut, take_cut, take_cut, g0, g1, g2, g3] at e
 first | exact e | (rw [e]; rfl) | (rw [e]; simp)
set_option maxRecDepth 100000 in
theorem signs_of {H : Type} {enc : TypeId × Value → H} {W : World} {b : Nat} {sp : Nat → Bool} {held : Bool} {fuel : Nat} {l : List Value} {x : DataW H × List MemPlace}
  (h : DataW.trod enc Tryz.prog W b sp held fuel 29 l = some x) : ∃ y : Sl Sg, l = [y.val] ∧ y.At SgE W := by
 obtain ⟨a, cap, ys, h1, h2, h3, h4, h5⟩ := rows_of SgE.f SgE.ok 17 (by decide) 29 110 Tryz.underlying29 (by kernel_rfl) SgE.len (fun m l z hz => sign_of hz) h
 exact ⟨⟨a, cap, ys⟩, h1, Nat.le_trans h2 h3, h4, h5⟩
set_option maxRecDepth 100000 in
theorem reqs_of {H : Type} {enc : TypeId × Value → H} {W : World} {b : Nat} {sp : Nat → Bool} {held : Bool} {fuel : Nat} {l : List Value} {x : DataW H × List MemPlace}
  (h : DataW.trod enc Tryz.prog W b sp held fuel 22 l = some x) : ∃ y : Sl Rq, l = [y.val] ∧ y.At RqE W := by
 obtain ⟨a, cap, ys, h1, h2, h3, h4, h5⟩ := rows_of RqE.f RqE.ok 19 (by decide) 22 91 Tryz.underlying22 (by kernel_rfl) RqE.len (fun m l z hz => req_of hz) h
 exact ⟨⟨a, cap, ys⟩, h1, Nat.le_trans h2 h3, h4, h5⟩
set_option maxRecDepth 100000 in
theorem batch_of {H : Type} {enc : TypeId × Value → H} {W : World} {b : Nat} {sp : Nat → Bool} {held : Bool} {fuel : Nat} {l : List Value} {x : DataW H × List MemPlace}
  (h : DataW.trod enc Tryz.prog W b sp held fuel 24 l = some x) : ∃ (q : Bool) (r : Sl Rq), l = [.bool q, r.val] ∧ r.At RqE W := by
 have hct : Tryz.prog.cellsOf 24 = 2 := by kernel_rfl
 obtain ⟨xs, m, _, rfl, hcl, hl, hf⟩ := DataW.trod_struct Tryz.underlying24 h
 rw [hct] at hcl
 have hl : xs.length = 2 := hl
 have h0 : DataW.trod enc Tryz.prog W b sp held m 4 ((l.drop 0).take (Tryz.prog.cellsOf 4)) = xs[0]? := hf 0 _ rfl
 rw [show Tryz.prog.cellsOf 4 = 1 by kernel_rfl] at h0
 obtain ⟨y0, e0⟩ := some_at hl (show 0 < 2 by omega)
 obtain ⟨z0, g0, _⟩ := DataW.trod_bool Tryz.underlying4 (h0.trans e0)
 have h1 : DataW.trod enc Tryz.prog W b sp held m 22 ((l.drop 1).take (Tryz.prog.cellsOf 22)) = xs[1]? := hf 1 _ rfl
 rw [show Tryz.prog.cellsOf 22 = 1 by kernel_rfl] at h1
 obtain ⟨y1, e1⟩ := some_at hl (show 1 < 2 by omega)
 obtain ⟨z1, g1, bz1⟩ := reqs_of (h1.trans e1)
 refine ⟨z0, z1, ?_, bz1⟩
 have e := take_whole (n := 1 + (1)) hcl
 rw [take_cut, g0, g1] at e
 first | exact e | (rw [e]; rfl) | (rw [e]; simp)
set_option maxRecDepth 100000 in
theorem cert_of {H : Type} {enc : TypeId × Value → H} {W : World} {b : Nat} {sp : Nat → Bool} {held : Bool} {fuel : Nat} {l : List Value} {x : DataW H × List MemPlace}
  (h : DataW.trod enc Tryz.prog W b sp held fuel 31 l = some x) : ∃ (v : Vt) (r : Sl Sg), l = certL v r ∧ v.ok ∧ r.At SgE W := by
 have hct : Tryz.prog.cellsOf 31 = 37 := by kernel_rfl
 obtain ⟨xs, m, _, rfl, hcl, hl, hf⟩ := DataW.trod_struct Tryz.underlying31 h
 rw [hct] at hcl
 have hl : xs.length = 2 := hl
 have h0 : DataW.trod enc Tryz.prog W b sp held m 28 ((l.drop 0).take (Tryz.prog.cellsOf 28)) = xs[0]? := hf 0 _ rfl
 rw [show Tryz.prog.cellsOf 28 = 36 by kernel_rfl] at h0
 obtain ⟨y0, e0⟩ := some_at hl (show 0 < 2 by omega)
 obtain ⟨z0, g0, bz0⟩ := vote_of (h0.trans e0)
 have h1 : DataW.trod enc Tryz.prog W b sp held m 29 ((l.drop 36).take (Tryz.prog.cellsOf 29)) = xs[1]? := hf 1 _ rfl
 rw [show Tryz.prog.cellsOf 29 = 1 by kernel_rfl] at h1
 obtain ⟨y1, e1⟩ := some_at hl (show 1 < 2 by omega)
 obtain ⟨z1, g1, bz1⟩ := signs_of (h1.trans e1)
 refine ⟨z0, z1, ?_, bz0, bz1⟩
 have e := take_whole (n := 36 + (1)) hcl
 rw [take_cut, g0, g1] at e
 first | exact e | (rw [e]; rfl) | (rw [e]; simp)
end Go.Proofs.YtinndbipomlokaaGreat
namespace Go.Proofs.YtinndbipomlokaaGreat
open Go.ChangeShapes Go.WideShapes Go.ChangeAt Go.RowKit
open Sha Tal
set_option linter.unusedVariables false
set_option linter.constructorNameAsVariable false
instance : Inhabited Rc := ⟨Rc.zero 0⟩
set_option maxRecDepth 100000 in
theorem rec_of {H : Type} {enc : TypeId × Value → H} {W : World} {b : Nat} {sp : Nat → Bool} {held : Bool} {fuel : Nat} {l : List Value} {x : DataW H × List MemPlace}
  (h : DataW.trod enc Tryz.prog W b sp held fuel 33 l = some x) : ∃ r : Rc, l = RcE.f r ∧ (RcE.ok r ∧ r.At W) := by
 have hct : Tryz.prog.cellsOf 33 = 45 := by kernel_rfl
 obtain ⟨xs, m, _, rfl, hcl, hl, hf⟩ := DataW.trod_struct Tryz.underlying33 h
 rw [hct] at hcl
 have hl : xs.length = 8 := hl
 have h0 : DataW.trod enc Tryz.prog W b sp held m 3 ((l.drop 0).take (Tryz.prog.cellsOf 3)) = xs[0]? := hf 0 _ rfl
 rw [show Tryz.prog.cellsOf 3 = 1 by kernel_rfl] at h0
 obtain ⟨y0, e0⟩ := some_at hl (show 0 < 8 by omega)
 obtain ⟨z0, g0, _, wz0⟩ := DataW.trod_int Tryz.underlying3 (h0.trans e0)
 have bz0 := wf64 wz0
 have h1 : DataW.trod enc Tryz.prog W b sp held m 3 ((l.drop 1).take (Tryz.prog.cellsOf 3)) = xs[1]? := hf 1 _ rfl
 rw [show Tryz.prog.cellsOf 3 = 1 by kernel_rfl] at h1
 obtain ⟨y1, e1⟩ := some_at hl (show 1 < 8 by omega)
 obtain ⟨z1, g1, _, wz1⟩ := DataW.trod_int Tryz.underlying3 (h1.trans e1)
 have bz1 := wf64 wz1
 have h2 : DataW.trod enc Tryz.prog W b sp held m 3 ((l.drop 2).take (Tryz.prog.cellsOf 3)) = xs[2]? := hf 2 _ rfl
 rw [show Tryz.prog.cellsOf 3 = 1 by kernel_rfl] at h2
 obtain ⟨y2, e2⟩ := some_at hl (show 2 < 8 by omega)
 obtain ⟨z2, g2, _, wz2⟩ := DataW.trod_int Tryz.underlying3 (h2.trans e2)
 have bz2 := wf64 wz2
 have h3 : DataW.trod enc Tryz.prog W b sp held m 3 ((l.drop 3).take (Tryz.prog.cellsOf 3)) = xs[3]? := hf 3 _ rfl
 rw [show Tryz.prog.cellsOf 3 = 1 by kernel_rfl] at h3
 obtain ⟨y3, e3⟩ := some_at hl (show 3 < 8 by omega)
 obtain ⟨z3, g3, _, wz3⟩ := DataW.trod_int Tryz.underlying3 (h3.trans e3)
 have bz3 := wf64 wz3
 have h4 : DataW.trod enc Tryz.prog W b sp held m 24 ((l.drop 4).take (Tryz.prog.cellsOf 24)) = xs[4]? := hf 4 _ rfl
 rw [show Tryz.prog.cellsOf 24 = 2 by kernel_rfl] at h4
 obtain ⟨y4, e4⟩ := some_at hl (show 4 < 8 by omega)
 obtain ⟨q4, z4, g4, bz4⟩ := batch_of (h4.trans e4)
 have h5 : DataW.trod enc Tryz.prog W b sp held m 31 ((l.drop 6).take (Tryz.prog.cellsOf 31)) = xs[5]? := hf 5 _ rfl
 rw [show Tryz.prog.cellsOf 31 = 37 by kernel_rfl] at h5
 obtain ⟨y5, e5⟩ := some_at hl (show 5 < 8 by omega)
 obtain ⟨v5, z5, g5, bv5, bz5⟩ := cert_of (h5.trans e5)
 have h6 : DataW.trod enc Tryz.prog W b sp held m 9 ((l.drop 43).take (Tryz.prog.cellsOf 9)) = xs[6]? := hf 6 _ rfl
 rw [show Tryz.prog.cellsOf 9 = 1 by kernel_rfl] at h6
 obtain ⟨y6, e6⟩ := some_at hl (show 6 < 8 by omega)
 obtain ⟨z6, g6, _, bz6⟩ := DataW.trod_string Tryz.underlying9 (h6.trans e6)
 have h7 : DataW.trod enc Tryz.prog W b sp held m 29 ((l.drop 44).take (Tryz.prog.cellsOf 29)) = xs[7]? := hf 7 _ rfl
 rw [show Tryz.prog.cellsOf 29 = 1 by kernel_rfl] at h7
 obtain ⟨y7, e7⟩ := some_at hl (show 7 < 8 by omega)
 obtain ⟨z7, g7, bz7⟩ := signs_of (h7.trans e7)
 refine ⟨⟨z0, z1, z2, z3, q4, z4, v5, z5, z6, z7⟩, ?_, bv5, ⟨bz4, bz5, bz7⟩⟩
 have e := take_whole (n := 1 + (1 + (1 + (1 + (2 + (37 + (1 + (1)))))))) hcl
 rw [take_cut, take_cut, take_cut, take_cut, take_cut, take_cut, take_cut, g0, g1, g2, g3, g4, g5, g6, g7] at e
 rw [e]; simp [RcE, Rc.cells, certL, List.append_assoc]
set_option maxRecDepth 100000 in
theorem recs_of {H : Type} {enc : TypeId × Value → H} {W : World} {b : Nat} {sp : Nat → Bool} {held : Bool} {fuel : Nat} {l : List Value} {x : DataW H × List MemPlace}
  (h : DataW.trod enc Tryz.prog W b sp held fuel 50 l = some x) : ∃ y : Sl Rc, l = [y.val] ∧ RcsAt W y ∧ y.xs.length ≤ y.cap ∧ y.cap ≤ maxLen := by
 obtain ⟨a, cap, ys, h1, h2, h3, h4, h5⟩ := rows_of RcE.f (fun r => RcE.ok r ∧ r.At W) 45 (by decide) 50 33 Tryz.underlying50 (by kernel_rfl) (fun y hy => RcE.len y hy.1) (fun m l z hz => rec_of hz) h
 exact ⟨⟨a, cap, ys⟩, h1, ⟨⟨Nat.le_trans h2 h3, fun y hy => (h4 y hy).1, h5⟩, fun y hy => (h4 y hy).2⟩, h2, h3⟩
set_option maxRecDepth 100000 in
theorem open_recs {H : Type} {enc : TypeId × Value → H} {W : World} {base b : Nat} {sp : Nat → Bool} {held : Bool} {fuel : Nat} {v : Value} {x : DataW H × List MemPlace} (hv : Value.okWide Tryz.prog W .any base 50 v)
  (h : DataW.trod enc Tryz.prog W b sp held fuel 50 v.cells.toList = some x) : ∃ y : Sl Rc, v = y.val ∧ RcsAt W y ∧ y.xs.length ≤ y.cap ∧ y.cap ≤ maxLen := by
 obtain ⟨a0, len, cap, rfl⟩ := okWide_slice Tryz.underlying50 hv
 obtain ⟨y, h1, h2, h3, h4⟩ := recs_of h
 refine ⟨y, ?_, h2, h3, h4⟩
 simp only [Value.cells] at h1
 exact (List.singleton_inj.1 h1)
end Go.Proofs.YtinndbipomlokaaGreat
namespace Go.Proofs.YtinndbipomlokaaGreat.recordSince
open Go.ChangeShapes Go.WideShapes Go.ChangeAt Go.RowKit
open Go.ChangeMaps (open_string shut_string)
set_option linter.unusedVariables false
set_option maxRecDepth 100000 in
theorem lifted (os : Os) (started : os.Started) (H : Type) (enc : TypeId × Value → H) :
  ReturnsInHanded {} Tryz.checked os 6 .any (Rows.recordSinceSpec.pre6 enc Tryz.prog Tryz.f6 Rows.recordSinceRow.domain false) (Rows.recordSinceSpec.post enc Tryz.prog Tryz.f6 false true false false) := by
 refine returnsInHanded_of_change (C := Tryz.checked) own started (by kernel_rfl) Tryz.func6
  (ChangeSpec.witness6 (enc := enc) (C := Tryz.checked) false ⟨#[], #[.slice none 0 0], []⟩ 8 (by kernel_rfl) (by kernel_rfl) (by kernel_rfl) (by kernel_rfl)) ?_
 intro W base args ds gs before hval0 hW hcnd _
 have hval : ∀ (j : Nat) t v, Tryz.f6.params[j]? = some t → args[j]? = some v → Value.okWide Tryz.prog W .any base t v := hval0
 have hW' := hW
 obtain ⟨p, q, hA0, hV, rfl, hfz, hnd⟩ := hW
 have hA : DataW.TrodAll enc Tryz.prog W 0 (fun _ => true) true Tryz.f6.params.toList args.toList ds p := hA0
 rw [Tryz.params6] at hA hval
 obtain ⟨v0, vs0, d0, ds0, p0, q0, hargs, rfl, rfl, h0, r0⟩ := trodAll_cons hA
 obtain ⟨rfl, rfl, rfl⟩ := trodAll_nil r0
 obtain rfl : args = #[v0] := by cases args; simp_all
 obtain ⟨rfl, rfl⟩ := trodVars_none hV
 have k0 := h0
 have lt0 : ∀ x ∈ p0, x.block < W.heap.size := by obtain ⟨m, hm⟩ := k0; exact DataW.trod_lt m _ _ _ hm
 obtain ⟨fuel0, hf0⟩ := h0
 obtain ⟨x0, rfl, at0, le0, lm0⟩ := open_recs (hval 0 50 v0 rfl rfl) hf0
 clear hA0 hval0
 refine (since_walk x0 W at0 le0 lm0).mono fun e W' ⟨he, bel⟩ => ?_
 subst he
 exact ⟨_, rfl, _, _, _, [], _, [], hW', trodAll_mk1 (shut_bool Tryz.underlying4 _), (trodAll_cons_mk (Below.trod laidOut (by kernel_rfl) (of_decide_eq_true (by kernel_rfl)) k0 bel lt0) trodAll_mk0), rfl, bel.frame _, fun h => by cases h⟩
theorem over : Rows.recordSinceRow.holds Tryz.pinned (OpenSpec.ofChange Rows.recordSinceSpec) :=
 OpenClaim.holds_of_wide 6 Tryz.f6 rfl rfl rfl rfl rfl rfl rfl ⟨rfl, rfl, rfl, rfl, rfl⟩ rfl rfl rfl rfl rfl (by kernel_rfl) Tryz.func6 (by kernel_rfl)
  (of_decide_eq_true (by kernel_rfl)) (by unfold Func.isWrapper; first | (rw [if_pos (by decide +kernel)]; kernel_rfl) | (rw [if_neg (by decide +kernel)]; exact ⟨rfl, rfl⟩))
  (fun os started H enc _ => lifted os started H enc)
end Go.Proofs.YtinndbipomlokaaGreat.recordSince
namespace Go.Proofs.YtinndbipomlokaaGreat
theorem recordSince_holds : Rows.RecordSinceSaid := recordSince.over
#print axioms recordSince_holds
end Go.Proofs.YtinndbipomlokaaGreat
