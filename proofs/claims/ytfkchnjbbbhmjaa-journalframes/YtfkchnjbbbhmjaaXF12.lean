/- For every kind, record and bytes, raddlelaw16.JournalFrames returns true: any record has the frame that the document says; any bytes have the frames that it says. Conditions: none beyond the row's own. -/
import Derived.Test.YtfkchnjbbbhmjaaXF11
import Derived.Test.YtfkchnjbbbhmjaaXF8
import Derived.WalkKit
import Derived.ProofKit
import Derived.OpenShut
import Derived.ShutString
import Derived.ChangeOld
namespace Go.Proofs.Ytfkchnjbbbhmjaa.Ty
open Go.RowKit
open Tal
def zR (zss : List (List Int)) : List Rc := zss.map (fun z => ⟨none, 0, z⟩)
theorem zR_zs (zss : List (List Int)) : (zR zss).map Rc.zs = zss := by
  unfold zR
  rw [List.map_map]
  exact List.map_id zss
theorem takesE_zs (on : Bool) {rs ss : List Rc} (h : rs.map Rc.zs = ss.map Rc.zs) : takesE on rs = takesE on ss := by
  have key : ∀ {rs ss : List Rc}, rs.map Rc.zs = ss.map Rc.zs → (∀ r ∈ rs, r.zs.length ≤ 4194304) → ∀ r ∈ ss, r.zs.length ≤ 4194304 := fun {rs ss} h hr r hm => by
    have : r.zs ∈ rs.map Rc.zs := by rw [h]; exact List.mem_map.2 ⟨r, hm, rfl⟩
    obtain ⟨x, hx, e⟩ := List.mem_map.1 this
    rw [← e]; exact hr x hx
  unfold takesE
  by_cases h1 : ∀ r ∈ rs, r.zs.length ≤ 4194304
  · rw [if_pos h1, if_pos (key h h1)]
  · rw [if_neg h1, if_neg (fun h2 => h1 (key h.symm h2))]
theorem layM_zs (M : Mt) (j : Jv) {rs ss : List Rc} (h : rs.map Rc.zs = ss.map Rc.zs) : layM M j rs = layM M j ss := by
  unfold layM
  rw [takesE_zs _ h, h]
/-- what Open comes to: the error, the tape, the journal -/
def openL (M : Mt) (q p : Nat) : LayR := layM M ⟨q, p, (findK M 2).1, (findK M 2).2.1, M.fa⟩ (zR (findK M 2).2.2)
theorem flat_val (rs : List Rc) : rs.flatMap Rc.cells = rs.map Rc.val := by
  induction rs with
  | nil => rfl
  | cons r rs ih => rw [List.flatMap_cons, ih]; rfl
theorem ROwn.off' {B : Nat} {w w' : World} {v : Value} {rs : List Rc} {F : Nat → Prop} (h : ROwn B w v rs) (ho : Off F w w') (h1 : ∀ g, v.ownBlock = some g → ¬ F g) (h2 : ∀ x ∈ rs, ∀ ad, x.a = some ad → ¬ F ad.block) : ROwn B w' v rs := by
  refine ⟨owns_at h.r (fun g q => ho.2 g (h.r.lt g q).2 (h1 g q)), fun x hx => ?_, h.len, fun x hx ad q => ⟨(h.off x hx ad q).1, Nat.lt_of_lt_of_le (h.off x hx ad q).2.1 ho.size, (h.off x hx ad q).2.2⟩⟩
  have hr := h.rows x hx
  refine ⟨hr.1, hr.2.1, ?_⟩
  rcases hr.2.2 with q | ⟨b, off, q, hb, hrr⟩
  · exact .inl q
  · exact .inr ⟨b, off, q, Nat.lt_of_lt_of_le hb ho.size, range_at hrr (ho.2 b hb (h2 x hx _ q))⟩
/-- what is there behind Open -/
structure Opened (A : Nat → Prop) (w w' : World) (p q : Nat) (M : Mt) (L : LayR) (zss : List (List Int)) (e : Ending) (A2 : Nat → Prop) : Prop where
  up : ∀ b, A b → A2 b
  own : A2 q
  lt : ∀ b, A2 b → b < w'.heap.size
  low : ∀ b, A2 b → A b ∨ w.heap.size ≤ b
  off : Off (fun b => ¬ A b) w w'
  q0 : w.heap.size ≤ q
  live : Live A2 w' p L.M
  said : (L.e ≠ 0 ∧ e = .returned (.tuple #[.pointer none, .slice none 0 0, .int .i64 L.e])) ∨
    (L.e = 0 ∧ JAt w' L.j ∧ ∃ v rs, e = .returned (.tuple #[.pointer (some ⟨q, 0, none⟩), v, .int .i64 0]) ∧ ROwn w.heap.size w' v rs ∧ rs.map Rc.zs = zss ∧ rs.length ≤ 100000000 ∧ (∀ x ∈ rs, ∀ ad, x.a = some ad → A2 ad.block) ∧ ∀ g, v.ownBlock = some g → A2 g)
set_option maxRecDepth 100000 in
set_option maxHeartbeats 8000000 in
theorem open_off (p : Nat) (M : Mt) (A : Nat → Prop) (w : World) (hT : Live A w p M) (hon : M.on = false) :
    Calls Try.prog 56 #[.pointer (some ⟨p, 0, none⟩)] w fun e w' => e = .returned (.tuple #[.pointer none, .slice none 0 0, .int .i64 150]) ∧ Below w.heap.size w w' := by
  have cF := find_off p M A w hT hon
  clear hon
  go_enter Try.func56, Try.ntmps56
  go_wp2_with fail
  refine cF.mono ?_
  rintro e w1 ⟨rfl, hB1⟩
  clear cF
  go_wp2
  go_ret3
  exact ⟨rfl, hB1⟩
set_option maxRecDepth 100000 in
set_option maxHeartbeats 8000000 in
theorem open_on (p : Nat) (M : Mt) (A : Nat → Prop) (w : World) (hT : Live A w p M) (hA : ∀ b, A b → b < w.heap.size) (hon : M.on = true) (hrm : M.room ≤ 100000000) :
    Calls Try.prog 56 #[.pointer (some ⟨p, 0, none⟩)] w fun e w' => ∃ q A2, Opened A w w' p q M (openL M q p) (findK M 2).2.2 e A2 := by
  have cF := find_on p M A w hT hon hrm
  have hfk := findK_ok hT.ok 2 (by omega)
  unfold openL
  generalize findK M 2 = fk at *
  obtain ⟨far, ftu, frz⟩ := fk
  simp only at cF
  clear hon
  go_enter Try.func56, Try.ntmps56
  go_wp2_with fail
  refine cF.mono ?_
  rintro e w1 ⟨⟨q, v, rs, rfl, hJ, hW, hzs, hq0, hrn, hvq, hxq⟩, hB1⟩
  clear cF
  obtain ⟨ra, rc, rfl, hR, hrc, hrb⟩ := hW.recs hrn
  have hrow : RowOf Rc.cells w1 ra rs := by
    rcases hR.at0 with h0 | ⟨b, off, e1, e2, e3⟩
    · exact .inl h0
    · exact .inr ⟨b, off, e1, e2, by rw [flat_val]; exact e3⟩
  have hT1 := hT.widen hB1
  have hA1 := More.lt (w1 := w1) hA hB1.size
  have hAq : More A w w1 q := .inr ⟨hq0, hJ.lt⟩
  have hEL : Hid (layM M ⟨q, p, far, ftu, M.fa⟩ rs = layM M ⟨q, p, far, ftu, M.fa⟩ (zR frz)) := hide (layM_zs M _ (by rw [hzs, zR_zs]))
  have cL := jlay_any ⟨q, p, far, ftu, M.fa⟩ M (More A w w1) ra rc rs w1 hJ ⟨hfk.a0, hfk.a1, hfk.t0, hfk.t1⟩ hT1 hA1 hAq hrow (by unfold maxLen; omega)
    (.inr (fun x hx => ⟨.inr (hrb x hx), hvq x.block (by simp [hx, Value.ownBlock])⟩)) (fun r hr => ⟨hW.rows r hr, .inr (fun x hx => .inr ⟨(hW.off r hr x hx).1, (hW.off r hr x hx).2.1⟩)⟩)
  rw [hEL.out] at cL
  unfold jptr at cL
  simp only at cL
  obtain ⟨L, hL⟩ : ∃ L, Hid (layM M ⟨q, p, far, ftu, M.fa⟩ (zR frz) = L) := ⟨_, hide rfl⟩
  rw [hL.out] at cL
  clear hEL
  have HR := hide (And.intro hJ (And.intro hW (And.intro hR (And.intro hrow hrb))))
  have hoA : ∀ {w2 : World}, Off (fun b => b = q ∨ ¬ More A w w1 b) w1 w2 → Off (fun b => ¬ A b) w w2 := fun h => (Off.of_below hB1).trans h (fun b hb hq => by
    rcases hq with hq | hq
    · intro q1; subst hq; omega
    · exact fun q1 => hq (.inl q1))
  clear hT hT1 hJ hW hR hrow hrb
  by_cases hLe : L.e = 0
  · rw [hLe] at cL
    go_wp2_with fail
    refine cL.mono ?_
    rintro e w2 ⟨rfl, hT2, hJ2, hO2⟩
    clear cL
    obtain ⟨kJ, kW, kR, kr, kb⟩ := HR.out
    have hW2 : ROwn w.heap.size w2 (.slice ra rs.length rc) rs := kW.off' hO2 (fun g e1 e2 => by
      rcases e2 with e2 | e2
      · exact hvq g e1 e2
      · exact e2 (.inr (kW.r.lt g e1))) (fun x hx ad e1 e2 => by
      rcases e2 with e2 | e2
      · exact hxq x hx ad e1 e2
      · exact e2 (.inr ⟨(kW.off x hx ad e1).1, (kW.off x hx ad e1).2.1⟩))
    have HF : Hid (Opened A w w2 p q M L frz (.returned (.tuple #[.pointer (some ⟨q, 0, none⟩), .slice ra rs.length rc, .int .i64 0])) (More A w w1)) := hide
      ⟨fun b h => .inl h, hAq, fun b h => Nat.lt_of_lt_of_le (hA1 b h) hO2.size, fun b h => h.imp id (fun h => h.1), hoA hO2, hq0, hT2, .inr ⟨hLe, hJ2, _, rs, rfl, hW2, hzs, hrn, fun x hx ad e1 => .inr ⟨(kW.off x hx ad e1).1, (kW.off x hx ad e1).2.1⟩, fun g e1 => .inr (kW.r.lt g e1)⟩⟩
    clear kJ kW kR kr kb hW2 hT2 hJ2 hO2
    go_wp2
    go_ret3
    exact ⟨q, _, by rw [hL.out]; exact HF.out⟩
  · have n0 : (L.e != 0) = true := bne_iff_ne.2 hLe
    go_wp2_with fail
    refine cL.mono ?_
    rintro e w2 ⟨rfl, hT2, hJ2, hO2⟩
    clear cL
    have HF : Hid (Opened A w w2 p q M L frz (.returned (.tuple #[.pointer none, .slice none 0 0, .int .i64 L.e])) (More A w w1)) := hide
      ⟨fun b h => .inl h, hAq, fun b h => Nat.lt_of_lt_of_le (hA1 b h) hO2.size, fun b h => h.imp id (fun h => h.1), hoA hO2, hq0, hT2, .inl ⟨hLe, rfl⟩⟩
    clear hT2 hJ2 hO2 hLe
    go_wp2
    go_ret3
    exact ⟨q, _, by rw [hL.out]; exact HF.out⟩
end Go.Proofs.Ytfkchnjbbbhmjaa.Ty
namespace Go.Proofs.Ytfkchnjbbbhmjaa
open Go.RowKit
set_option maxRecDepth 100000 in
set_option maxHeartbeats 4000000 in
theorem jsure_any (j : Jv) (M : Mt) (A : Nat → Prop) (w : World) (h : JAt w j) (hT : Live A w j.p M) : Calls Try.prog 60 #[jptr j] w fun e w' => e = .returned (.bool (decide (M.sureOf j.ar = M.jbytes j.ar))) ∧ Below w.heap.size w w' := by
  obtain ⟨w8, hw8⟩ : ∃ w8, w.drew = w8 := ⟨_, rfl⟩
  have hB8 : Below w.heap.size w w8 := by rw [← hw8]; exact (Below.refl _ _).drew
  have cM := jmade_any j w8 (h.below hB8)
  have cS := live_sure (hT.below hB8) j.ar
  have cB := jbytes_any j M A w8 (h.below hB8) (hT.below hB8)
  have k0 : ∀ w', Below w8.heap.size w8 w' → w'.cell? ⟨j.q, 0, none⟩ = some (.pointer (some ⟨j.p, 0, none⟩)) := fun w' hw => (h.below (hB8.trans (hw.mono hB8.size))).cell 0 rfl
  have k1 : ∀ w', Below w8.heap.size w8 w' → w'.cell? ⟨j.q, 1, none⟩ = some (.int .i64 j.ar) := fun w' hw => (h.below (hB8.trans (hw.mono hB8.size))).cell 1 rfl
  have eS : (if j.ar = 0 then (M.sa : Int) else if j.ar = 1 then (M.sb : Int) else 0) = M.sureOf j.ar := rfl
  rw [eS] at cS
  obtain ⟨su, hsu⟩ : ∃ su, M.sureOf j.ar = su := ⟨_, rfl⟩
  obtain ⟨by', hby⟩ : ∃ by', M.jbytes j.ar = by' := ⟨_, rfl⟩
  rw [hsu] at cS
  rw [hby] at cB
  rw [hsu, hby]
  obtain ⟨bb, hbb'⟩ : ∃ bb, Hid (decide (su = by') = bb) := ⟨_, hide rfl⟩
  have hbb : (su == by') = bb := by rw [← hbb'.out]; rfl
  rw [hbb'.out]
  unfold jptr at *
  clear eS hsu hby h hT
  go_enter Try.func60, Try.ntmps60
  go_wp2_with fail
  refine hs_begin (S := (Below w8.heap.size w8)) 17 rfl (by kernel_rfl) ?_
  rw [hw8]
  clear hw8
  have hS : (Below w8.heap.size w8) w8 := Below.refl _ _
  refine hs_take (i := 0) (d := some 3) (v := ?_) rfl (by kernel_rfl) (by kernel_rfl) (by kernel_rfl) (by rfl) ?_ hS rfl ?_
  rotate_left
  · intro w' hw
    go_simp
    try with_reducible rfl
  simp only [Act.put, List.setIfInBounds_toArray, List.set_cons_zero, List.set_cons_succ]
  refine hs_call (i := 1) (d := some 4) rfl (by kernel_rfl) (by rfl) (by go_simp; first | done | exact ⟨rfl, rfl⟩ | with_reducible rfl) rfl ?_
  refine (cM).mono ?_
  rintro e' wq ⟨rfl, hx⟩
  have hS : Below w8.heap.size w8 wq := by rw [hx]; exact hS
  refine ⟨_, rfl, hS, ?_⟩
  simp only [Act.put, List.setIfInBounds_toArray, List.set_cons_zero, List.set_cons_succ]
  obtain rfl := hx.symm
  clear hx
  refine hs_take (i := 2) (d := some 5) (v := ?_) rfl (by kernel_rfl) (by kernel_rfl) (by kernel_rfl) (by rfl) ?_ hS rfl ?_
  rotate_left
  · intro w' hw
    go_simp
    try with_reducible rfl
  simp only [Act.put, List.setIfInBounds_toArray, List.set_cons_zero, List.set_cons_succ]
  refine hs_take (i := 3) (d := some 6) (v := ?_) rfl (by kernel_rfl) (by kernel_rfl) (by kernel_rfl) (by rfl) ?_ hS rfl ?_
  rotate_left
  · intro w' hw
    go_simp
    try with_reducible rfl
  simp only [Act.put, List.setIfInBounds_toArray, List.set_cons_zero, List.set_cons_succ]
  refine hs_take (i := 4) (d := some 7) (v := ?_) rfl (by kernel_rfl) (by kernel_rfl) (by kernel_rfl) (by rfl) ?_ hS rfl ?_
  rotate_left
  · intro w' hw
    go_simp
    try with_reducible rfl
  simp only [Act.put, List.setIfInBounds_toArray, List.set_cons_zero, List.set_cons_succ]
  refine hs_take (i := 5) (d := some 8) (v := ?_) rfl (by kernel_rfl) (by kernel_rfl) (by kernel_rfl) (by rfl) ?_ hS rfl ?_
  rotate_left
  · intro w' hw
    go_simp
    try with_reducible rfl
  simp only [Act.put, List.setIfInBounds_toArray, List.set_cons_zero, List.set_cons_succ]
  refine hs_take (i := 6) (d := some 9) (v := ?_) rfl (by kernel_rfl) (by kernel_rfl) (by kernel_rfl) (by rfl) ?_ hS rfl ?_
  rotate_left
  · intro w' hw
    have := k0 w' hw
    go_simp
    try with_reducible rfl
  simp only [Act.put, List.setIfInBounds_toArray, List.set_cons_zero, List.set_cons_succ]
  refine hs_take (i := 7) (d := some 10) (v := ?_) rfl (by kernel_rfl) (by kernel_rfl) (by kernel_rfl) (by rfl) ?_ hS rfl ?_
  rotate_left
  · intro w' hw
    go_simp
    try with_reducible rfl
  simp only [Act.put, List.setIfInBounds_toArray, List.set_cons_zero, List.set_cons_succ]
  refine hs_take (i := 8) (d := some 11) (v := ?_) rfl (by kernel_rfl) (by kernel_rfl) (by kernel_rfl) (by rfl) ?_ hS rfl ?_
  rotate_left
  · intro w' hw
    go_simp
    try with_reducible rfl
  simp only [Act.put, List.setIfInBounds_toArray, List.set_cons_zero, List.set_cons_succ]
  refine hs_take (i := 9) (d := some 12) (v := ?_) rfl (by kernel_rfl) (by kernel_rfl) (by kernel_rfl) (by rfl) ?_ hS rfl ?_
  rotate_left
  · intro w' hw
    go_simp
    try with_reducible rfl
  simp only [Act.put, List.setIfInBounds_toArray, List.set_cons_zero, List.set_cons_succ]
  refine hs_take (i := 10) (d := some 13) (v := ?_) rfl (by kernel_rfl) (by kernel_rfl) (by kernel_rfl) (by rfl) ?_ hS rfl ?_
  rotate_left
  · intro w' hw
    have := k1 w' hw
    go_simp
    try with_reducible rfl
  simp only [Act.put, List.setIfInBounds_toArray, List.set_cons_zero, List.set_cons_succ]
  refine hs_take (i := 12) (d := some 15) (v := ?_) rfl (by kernel_rfl) (by kernel_rfl) (by kernel_rfl) (by rfl) ?_ hS rfl ?_
  rotate_left
  · intro w' hw
    go_simp
    try with_reducible rfl
  simp only [Act.put, List.setIfInBounds_toArray, List.set_cons_zero, List.set_cons_succ]
  refine hs_call (i := 11) (d := some 14) rfl (by kernel_rfl) (by rfl) (by go_simp; first | done | exact ⟨rfl, rfl⟩ | with_reducible rfl) rfl ?_
  refine (cS).mono ?_
  rintro e' wq ⟨rfl, hx⟩
  have hS : Below w8.heap.size w8 wq := by rw [hx]; exact hS
  refine ⟨_, rfl, hS, ?_⟩
  simp only [Act.put, List.setIfInBounds_toArray, List.set_cons_zero, List.set_cons_succ]
  obtain rfl := hx.symm
  clear hx
  refine hs_call (i := 13) (d := some 16) rfl (by kernel_rfl) (by rfl) (by go_simp; first | done | exact ⟨rfl, rfl⟩ | with_reducible rfl) rfl ?_
  refine (cB).mono ?_
  rintro e' w9 ⟨rfl, hB9⟩
  have hS : Below w8.heap.size w8 w9 := hB9
  refine ⟨_, rfl, hS, ?_⟩
  simp only [Act.put, List.setIfInBounds_toArray, List.set_cons_zero, List.set_cons_succ]
  refine hs_take (i := 14) (d := some 17) (v := .bool bb) rfl (by kernel_rfl) (by kernel_rfl) (by kernel_rfl) (by rfl) (fun w' hw => by have := hbb; go_simp) hS rfl ?_
  simp only [Act.put, List.setIfInBounds_toArray, List.set_cons_zero, List.set_cons_succ]
  refine hs_take (i := 15) (d := some 18) (v := .bool bb) rfl (by kernel_rfl) (by kernel_rfl) (by kernel_rfl) (by rfl) (fun w' hw => by go_simp) hS rfl ?_
  simp only [Act.put, List.setIfInBounds_toArray, List.set_cons_zero, List.set_cons_succ]
  refine hs_take (i := 16) (d := some 2) (v := .bool bb) rfl (by kernel_rfl) (by kernel_rfl) (by kernel_rfl) (by rfl) (fun w' hw => by go_simp) hS rfl ?_
  simp only [Act.put, List.setIfInBounds_toArray, List.set_cons_zero, List.set_cons_succ]
  refine hs_done (by kernel_rfl) ?_
  go_wp2
  go_ret
  exact ⟨rfl, hB8.trans (hB9.mono hB8.size)⟩
end Go.Proofs.Ytfkchnjbbbhmjaa
namespace Go.Proofs.Ytfkchnjbbbhmjaa.Ty
open Go.RowKit
open Tal
def W0 : Mt := Mt.new 1000
def W1 : Mt := (openL W0 0 0).M
theorem open0 (q p : Nat) : openL W0 q p = ⟨0, W1, ⟨q, p, 0, 1, 0⟩⟩ := by kernel_rfl
theorem rec0 : (findK W0 2).2.2 = [] := by kernel_rfl
def W2 : Mt := (W1.jappend ⟨0, 0, 0, 1, 0⟩ [97]).2
def W3 : Mt := (W2.jsync ⟨0, 0, 0, 1, 0⟩).2
def W4 : Mt := (W3.jappend ⟨0, 0, 0, 1, 0⟩ [98]).2
def W5 : Mt := (W4.fail 0).2
def W6 : Mt := { W5 with on := true }
def W7 : Mt := (openL W6 0 0).M
theorem app2 (q p : Nat) : W1.jappend ⟨q, p, 0, 1, 0⟩ [97] = (0, W2) := by kernel_rfl
theorem syn3 (q p : Nat) : W2.jsync ⟨q, p, 0, 1, 0⟩ = (0, W3) := by kernel_rfl
theorem app4 (q p : Nat) : W3.jappend ⟨q, p, 0, 1, 0⟩ [98] = (0, W4) := by kernel_rfl
theorem sur4 : decide (W4.sureOf 0 = W4.jbytes 0) = false := by kernel_rfl
theorem fai5 : W4.fail 0 = (0, W5) := by kernel_rfl
theorem open6 (q p : Nat) : openL W6 q p = ⟨0, W7, ⟨q, p, 1, 2, 1⟩⟩ := by kernel_rfl
theorem rec6 : (findK W6 2).2.2 = [[97]] := by kernel_rfl
theorem on6 : W6.on = true := by kernel_rfl
theorem rm6 : W6.room ≤ 100000000 := by
  have : W6.room = 1000 := by kernel_rfl
  omega
theorem a_str : strOf [97] = ⟨#[97]⟩ := by rfl
set_option maxRecDepth 100000 in
set_option maxHeartbeats 8000000 in
theorem lives16_any (w : World) : Calls Try.prog 27 #[] w fun e w' => e = .returned (.bool true) ∧ Below w.heap.size w w' := by
  have c1 := live_new 1000 w (by omega) (by omega)
  go_enter Try.func27, Try.ntmps27
  go_wp2_with fail
  refine c1.mono ?_
  rintro e w1 ⟨rfl, hB1, hT1⟩
  clear c1
  have lt0 : ∀ b, (fun b => b < w.heap.size) b → b < w1.heap.size := fun b hb => Nat.lt_of_lt_of_le hb hB1.size
  obtain ⟨p, hp⟩ : ∃ p, Hid (w.heap.size = p) := ⟨_, hide rfl⟩
  rw [hp.out] at hT1 lt0 ⊢
  have cO := open_on p W0 (fun b => b < p) w1 hT1 lt0 rfl (by show (1000 : Int) ≤ _; omega)
  simp only [open0, rec0] at cO
  go_wp2_with fail
  refine cO.mono ?_
  rintro e w2 ⟨q, A2, hOp⟩
  clear cO hT1
  obtain ⟨h2up, h2q, h2lt, -, h2off, -, hT2, hsaid⟩ := hOp
  simp only at hT2 hsaid
  rcases hsaid with ⟨h, -⟩ | ⟨-, hJ2, v, rs, rfl, hW, hzs, -⟩
  · exact absurd rfl h
  obtain rfl : rs = [] := by simpa using hzs
  obtain ⟨ra, rc, rfl, -, -, -⟩ := hW.recs (by simp)
  clear hW hzs lt0
  have hB2 : Below p w w2 := by
    rw [← hp.out]
    exact hB1.trans (h2off.below hB1.size (fun b hb q => q (by rw [← hp.out]; exact hb)))
  clear h2off hB1
  have cT := jturn_any _ w2 hJ2
  unfold jptr at cT
  simp only at cT
  go_wp2_with fail
  refine cT.mono ?_
  rintro e w2' ⟨rfl, hx⟩
  obtain rfl := hx.symm
  clear cT hx
  have kc := Lib.run_convert_bytes_const (P := Try.prog) w2 29 5 #[.int .u8 97] 1 1 Try.underlying29 Try.underlying5
  have hBa : Below w2.heap.size w2 (w2.alloc (.cells #[.int .u8 97] 5 (1, 2))) := (Below.refl _ _).alloc (Nat.le_refl _) _
  have hRa : RowAt (w2.alloc (.cells #[.int .u8 97] 5 (1, 2))) (some ⟨w2.heap.size, 0, none⟩) [97] := mark_row w2 [97] (1, 2) (by decide) (by decide) _ rfl
  have c3 := jappend_any _ W1 A2 _ 1 [97] _ (hJ2.below hBa) (hT2.below hBa) (fun b hb => Nat.lt_of_lt_of_le (h2lt b hb) hBa.size) h2q hRa
  rw [app2] at c3
  unfold jptr at c3
  simp only at c3
  go_wp2_with fail
  refine c3.mono ?_
  rintro e w3 ⟨rfl, hT3, hJ3, hO3⟩
  clear c3 kc hRa
  have hB3 : Below p w w3 := (hB2.trans (hBa.mono (by have := hB2.size; rw [hp.out] at this; exact this))).trans (hO3.below (by have := hB2.size; rw [hp.out] at this; have := hBa.size; omega) (fun b hb q => q (h2up b hb)))
  have lt3 : ∀ b, A2 b → b < w3.heap.size := fun b hb => Nat.lt_of_lt_of_le (h2lt b hb) (Nat.le_trans hBa.size hO3.size)
  clear hO3 hBa hT2 hJ2 hB2 h2lt
  have c4 := jsync_any _ W2 A2 w3 hJ3 hT3 lt3 h2q
  rw [syn3] at c4
  unfold jptr at c4
  simp only at c4
  go_wp2_with fail
  refine c4.mono ?_
  rintro e w4 ⟨rfl, hT4, hJ4, hO4⟩
  have hB4 : Below p w w4 := hB3.trans (hO4.below (by have := hB3.size; rw [hp.out] at this; exact this) (fun b hb q => q (h2up b hb)))
  have lt4 : ∀ b, A2 b → b < w4.heap.size := fun b hb => Nat.lt_of_lt_of_le (lt3 b hb) hO4.size
  clear c4 hO4 hT3 hJ3 hB3 lt3
  have kc := Lib.run_convert_bytes_const (P := Try.prog) w4 29 5 #[.int .u8 98] 1 1 Try.underlying29 Try.underlying5
  have hBa : Below w4.heap.size w4 (w4.alloc (.cells #[.int .u8 98] 5 (1, 2))) := (Below.refl _ _).alloc (Nat.le_refl _) _
  have hRa : RowAt (w4.alloc (.cells #[.int .u8 98] 5 (1, 2))) (some ⟨w4.heap.size, 0, none⟩) [98] := mark_row w4 [98] (1, 2) (by decide) (by decide) _ rfl
  have c3 := jappend_any _ W3 A2 _ 1 [98] _ (hJ4.below hBa) (hT4.below hBa) (fun b hb => Nat.lt_of_lt_of_le (lt4 b hb) hBa.size) h2q hRa
  rw [app4] at c3
  unfold jptr at c3
  simp only at c3
  go_wp2_with fail
  refine c3.mono ?_
  rintro e w5 ⟨rfl, hT5, hJ5, hO5⟩
  clear c3 kc hRa
  have hB5 : Below p w w5 := (hB4.trans (hBa.mono (by have := hB4.size; rw [hp.out] at this; exact this))).trans (hO5.below (by have := hB4.size; rw [hp.out] at this; have := hBa.size; omega) (fun b hb q => q (h2up b hb)))
  have lt5 : ∀ b, A2 b → b < w5.heap.size := fun b hb => Nat.lt_of_lt_of_le (lt4 b hb) (Nat.le_trans hBa.size hO5.size)
  clear hO5 hBa hT4 hJ4 hB4 lt4
  have c5 := jsure_any _ W4 A2 w5 hJ5 hT5
  simp only at c5
  rw [sur4] at c5
  unfold jptr at c5
  simp only at c5
  go_wp2_with fail
  refine c5.mono ?_
  rintro e w6 ⟨rfl, hBs⟩
  have hT6 := hT5.below hBs
  have hB6 : Below p w w6 := hB5.trans (hBs.mono (by have := hB5.size; rw [hp.out] at this; exact this))
  have lt6 : ∀ b, A2 b → b < w6.heap.size := fun b hb => Nat.lt_of_lt_of_le (lt5 b hb) hBs.size
  clear c5 hBs hT5 hJ5 hB5 lt5
  have c7 := live_fail hT6 lt6 0
  rw [fai5] at c7
  go_wp2_with fail
  refine c7.mono ?_
  rintro e w7 ⟨rfl, hT7, hO7⟩
  have hB7 : Below p w w7 := hB6.trans (hO7.below (by have := hB6.size; rw [hp.out] at this; exact this) (fun b hb q => q (h2up b hb)))
  have lt7 : ∀ b, A2 b → b < w7.heap.size := fun b hb => Nat.lt_of_lt_of_le (lt6 b hb) hO7.size
  clear c7 hO7 hT6 hB6 lt6
  have c8 := live_power hT7 lt7
  go_wp2_with fail
  refine c8.mono ?_
  rintro e w8 ⟨rfl, hT8, hO8⟩
  have hB8 : Below p w w8 := hB7.trans (hO8.below (by have := hB7.size; rw [hp.out] at this; exact this) (fun b hb q => q (h2up b hb)))
  have lt8 : ∀ b, A2 b → b < w8.heap.size := fun b hb => Nat.lt_of_lt_of_le (lt7 b hb) hO8.size
  have hT8 : Live A2 w8 p W6 := hT8
  clear c8 hO8 hT7 hB7 lt7
  have cO := open_on p W6 A2 w8 hT8 lt8 on6 rm6
  simp only [open6, rec6] at cO
  go_wp2_with fail
  refine cO.mono ?_
  rintro e w9 ⟨q9, A9, hOp⟩
  clear cO hT8
  obtain ⟨-, -, -, -, h9off, -, -, hsaid⟩ := hOp
  simp only at hsaid
  rcases hsaid with ⟨h, -⟩ | ⟨-, hJ9, v, rs, rfl, hW, hzs, -⟩
  · exact absurd rfl h
  obtain ⟨r, rfl⟩ : ∃ r, rs = [r] := by
    have hl : rs.length = 1 := by simpa using congrArg List.length hzs
    exact List.length_eq_one_iff.1 hl
  obtain ⟨xa, xc, xz⟩ := r
  simp only [List.map_cons, List.map_nil, List.cons.injEq, and_true] at hzs
  subst hzs
  obtain ⟨ra9, rc9, rfl, hR9, -, -⟩ := hW.recs (by simp)
  obtain ⟨b9, o9, hA9, -, hc9, hr9⟩ := hR9.get 0 (by simp)
  subst hA9
  simp only [List.getElem_cons_zero, Nat.add_zero] at hc9 hr9
  have hB9 : Below p w w9 := hB8.trans (h9off.below (by have := hB8.size; rw [hp.out] at this; exact this) (fun b hb q => q (h2up b hb)))
  have kr : (convert 29 9 (.slice xa 1 xc)).run Try.prog w9 = .ok (.string ⟨#[97]⟩) w9 := _root_.Go.Proofs.Ytfkchnjbbbhmjaa.row_str (cap := xc) hr9
  have cT := jturn_any _ w9 hJ9
  unfold jptr at cT
  simp only at cT
  clear hW hR9 hr9 h9off hJ9 hB8 lt8
  go_wp2_with fail
  refine cT.mono ?_
  rintro e w10 ⟨rfl, hx⟩
  obtain rfl := hx.symm
  clear cT hx
  go_wp2_with fail
  go_ret
  exact ⟨rfl, by rw [hp.out]; exact hB9⟩
end Go.Proofs.Ytfkchnjbbbhmjaa.Ty
namespace Go.Proofs.Ytfkchnjbbbhmjaa.Ty
open Go.RowKit
open Tal
def addTo (n m : Int) : Int := if n + m ≤ 8000 then n + m else 8001
set_option maxRecDepth 100000 in
set_option maxHeartbeats 400000 in
theorem addCap_any (n m : Int) (w : World) (h0 : 0 ≤ n) (h1 : n ≤ 8001) (h2 : 0 ≤ m) (h3 : m ≤ 9223372036854775807) :
    Calls Try.prog 33 #[.int .i64 n, .int .i64 m, .int .i64 8000] w fun e w' => e = .returned (.int .i64 (addTo n m)) ∧ w' = w := by
  by_cases c1 : 8000 < n
  · have HA : Hid (addTo n m = 8001) := by show _ = _; unfold addTo; rw [if_neg (by omega)]
    rw [HA.out]
    go_enter Try.func33, Try.ntmps33
    go_wp2
    go_ret
    exact ⟨rfl, rfl⟩
  · by_cases c2 : 8000 < m
    · have HA : Hid (addTo n m = 8001) := by show _ = _; unfold addTo; rw [if_neg (by omega)]
      rw [HA.out]
      go_enter Try.func33, Try.ntmps33
      go_wp2
      go_ret
      exact ⟨rfl, rfl⟩
    · by_cases c3 : 8000 - m < n
      · have HA : Hid (addTo n m = 8001) := by show _ = _; unfold addTo; rw [if_neg (by omega)]
        rw [HA.out]
        go_enter Try.func33, Try.ntmps33
        go_wp2
        go_ret
        exact ⟨rfl, rfl⟩
      · have HA : Hid (addTo n m = n + m) := by show _ = _; unfold addTo; rw [if_pos (by omega)]
        rw [HA.out]
        go_enter Try.func33, Try.ntmps33
        go_wp2
        go_ret
        exact ⟨rfl, rfl⟩
def wtR (ys : List Rc) : Nat := (ys.map fun y => 20 + y.zs.length).sum
theorem wtR_take (ys : List Rc) (k : Nat) (hk : k < ys.length) : wtR (ys.take (k + 1)) = wtR (ys.take k) + (20 + ys[k].zs.length) := by
  unfold wtR
  rw [List.take_succ_eq_append_getElem hk]
  simp only [List.map_append, List.map_cons, List.map_nil, List.sum_append, List.sum_cons, List.sum_nil]
  omega
set_option maxRecDepth 100000 in
set_option maxHeartbeats 20000000 in
theorem Light16_any (a : Option Addr) (cap : Nat) (ys : List Rc) (w : World) (h : Recs w a ys) :
    Calls Try.prog 26 #[.slice a ys.length cap] w fun e w' => (e = .returned (.bool false) ∧ Below w.heap.size w w') ∨ (e = .returned (.bool true) ∧ Below w.heap.size w w' ∧ wtR ys ≤ 8000) := by
  have hl := h.le
  go_enter Try.func26, Try.ntmps26
  go_wp2
  go_loopw [3, 4] (fun nv iv wr => ∃ (k : Nat) (n : Int), k ≤ ys.length ∧ iv = .int .i64 (k : Int) ∧ nv = .int .i64 n ∧ 0 ≤ n ∧ n ≤ 8001 ∧ Hid (n ≤ 8000 → n = wtR (ys.take k)) ∧ Below w.heap.size w wr) (fun _ iv _ => ys.length - (intOf iv).toNat)
  case atStart => exact ⟨0, 0, by omega, rfl, rfl, by omega, by omega, hide (fun _ => by simp [wtR]), Below.refl _ _⟩
  case round =>
    obtain ⟨k, n, hk, rfl, rfl, h0, h1, HL, hbel⟩ := hrel
    obtain ⟨wo, rfl⟩ : ∃ wo, wo = wr := ⟨_, rfl⟩
    by_cases hlt : k < ys.length
    · by_cases hn : n ≤ 8000
      · obtain ⟨rb, off, rfl, hrb, hre, hry⟩ := h.get k hlt
        have HT := hide (wtR_take ys k hlt)
        have hzl := hry.1
        clear hry
        obtain ⟨y, hy⟩ : ∃ y, Hid (ys[k] = y) := ⟨_, hide rfl⟩
        rw [hy.out] at hre HT hzl
        unfold maxLen at hzl
        have hre2 : w.cell? ⟨rb, off + k, none⟩ = some (.slice y.a y.zs.length y.cap) := hre
        clear hre hy
        have k1 : (k : Int) < ys.length := by omega
        have HA2 : Hid (addTo n 20 ≤ 8001 ∧ 0 ≤ addTo n 20 ∧ (addTo n 20 ≤ 8000 → addTo n 20 = wtR (ys.take k) + 20)) := by
          unfold addTo
          have := HL.out hn
          split
          · refine ⟨by omega, by omega, fun _ => by omega⟩
          · refine ⟨by omega, by omega, fun h => by omega⟩
        have ca := fun w0 => addCap_any n 20 w0 h0 h1 (by omega) (by omega)
        obtain ⟨p2, hp2⟩ : ∃ p, Hid (addTo n 20 = p) := ⟨_, hide rfl⟩
        simp only [hp2.out] at ca
        rw [hp2.out] at HA2
        have cb := fun w0 => addCap_any p2 (y.zs.length : Int) w0 HA2.out.2.1 HA2.out.1 (by omega) (by omega)
        have HA3 : Hid (addTo p2 y.zs.length ≤ 8001 ∧ 0 ≤ addTo p2 y.zs.length ∧ (addTo p2 y.zs.length ≤ 8000 → addTo p2 y.zs.length = wtR (ys.take (k + 1)))) := by
          unfold addTo
          have := HA2.out
          have := HT.out
          split
          · refine ⟨by omega, by omega, fun _ => by have := HA2.out.2.2 (by omega); omega⟩
          · refine ⟨by omega, by omega, fun h => by omega⟩
        obtain ⟨p3, hp3⟩ : ∃ p, Hid (addTo p2 y.zs.length = p) := ⟨_, hide rfl⟩
        simp only [hp3.out] at cb
        rw [hp3.out] at HA3
        clear hp2 hp3 HT HA2
        go_wp2_with fail
        obtain ⟨w5, hw5⟩ : ∃ w5, wo.drew = w5 := ⟨_, rfl⟩
        have hB5 : Below w.heap.size w w5 := by rw [← hw5]; exact hbel.drew
        have c2 : ∀ w', Below w5.heap.size w5 w' → w'.cell? ⟨rb, off + k, none⟩ = some (.slice y.a y.zs.length y.cap) := fun w' hw' => ((hB5.trans (hw'.mono hB5.size)).cell (p := ⟨rb, off + k, none⟩) hrb).trans hre2
        refine hs_begin (S := (Below w5.heap.size w5)) 9 rfl (by kernel_rfl) ?_
        rw [hw5]
        clear hw5
        have hS : (Below w5.heap.size w5) w5 := Below.refl _ _
        refine hs_take (i := 0) (d := some 15) (v := ?_) rfl (by kernel_rfl) (by kernel_rfl) (by kernel_rfl) (by rfl) ?_ hS rfl ?_
        rotate_left
        · intro w' hw
          go_simp
          try with_reducible rfl
        simp only [Act.put, List.setIfInBounds_toArray, List.set_cons_zero, List.set_cons_succ]
        refine hs_take (i := 2) (d := some 17) (v := ?_) rfl (by kernel_rfl) (by kernel_rfl) (by kernel_rfl) (by rfl) ?_ hS rfl ?_
        rotate_left
        · intro w' hw
          go_simp
          try with_reducible rfl
        simp only [Act.put, List.setIfInBounds_toArray, List.set_cons_zero, List.set_cons_succ]
        refine hs_take (i := 3) (d := some 18) (v := ?_) rfl (by kernel_rfl) (by kernel_rfl) (by kernel_rfl) (by rfl) ?_ hS rfl ?_
        rotate_left
        · intro w' hw
          go_simp
          try with_reducible rfl
        simp only [Act.put, List.setIfInBounds_toArray, List.set_cons_zero, List.set_cons_succ]
        refine hs_take (i := 4) (d := some 19) (v := ?_) rfl (by kernel_rfl) (by kernel_rfl) (by kernel_rfl) (by rfl) ?_ hS rfl ?_
        rotate_left
        · intro w' hw
          go_simp
          try with_reducible rfl
        simp only [Act.put, List.setIfInBounds_toArray, List.set_cons_zero, List.set_cons_succ]
        refine hs_take (i := 5) (d := some 20) (v := ?_) rfl (by kernel_rfl) (by kernel_rfl) (by kernel_rfl) (by rfl) ?_ hS rfl ?_
        rotate_left
        · intro w' hw
          have hc := c2 w' hw
          go_simp
          try with_reducible rfl
        simp only [Act.put, List.setIfInBounds_toArray, List.set_cons_zero, List.set_cons_succ]
        refine hs_take (i := 6) (d := some 21) (v := ?_) rfl (by kernel_rfl) (by kernel_rfl) (by kernel_rfl) (by rfl) ?_ hS rfl ?_
        rotate_left
        · intro w' hw
          go_simp
          try with_reducible rfl
        simp only [Act.put, List.setIfInBounds_toArray, List.set_cons_zero, List.set_cons_succ]
        refine hs_call (i := 1) (d := some 16) rfl (by kernel_rfl) (by rfl) (by go_simp; first | done | exact ⟨rfl, rfl⟩ | with_reducible rfl) rfl ?_
        refine (ca w5).mono ?_
        rintro e' w6 ⟨rfl, hx⟩
        have hS : (Below w5.heap.size w5) w6 := by rw [hx]; exact hS
        refine ⟨_, rfl, hS, ?_⟩
        simp only [Act.put, List.setIfInBounds_toArray, List.set_cons_zero, List.set_cons_succ]
        obtain rfl := hx.symm
        clear hx
        refine hs_call (i := 7) (d := some 22) rfl (by kernel_rfl) (by rfl) (by go_simp; first | done | exact ⟨rfl, rfl⟩ | with_reducible rfl) rfl ?_
        refine (cb w5).mono ?_
        rintro e' w7 ⟨rfl, hx⟩
        have hS : (Below w5.heap.size w5) w7 := by rw [hx]; exact hS
        refine ⟨_, rfl, hS, ?_⟩
        simp only [Act.put, List.setIfInBounds_toArray, List.set_cons_zero, List.set_cons_succ]
        obtain rfl := hx.symm
        clear hx
        refine hs_take (i := 8) (d := some 3) (v := ?_) rfl (by kernel_rfl) (by kernel_rfl) (by kernel_rfl) (by rfl) ?_ hS rfl ?_
        rotate_left
        · intro w' hw
          go_simp
          try with_reducible rfl
        simp only [Act.put, List.setIfInBounds_toArray, List.set_cons_zero, List.set_cons_succ]
        refine hs_done (by kernel_rfl) ?_
        go_wp2
        go_roundw
        case rel => exact ⟨k + 1, p3, by omega, by go_num, rfl, HA3.out.2.1, HA3.out.1, hide HA3.out.2.2, hB5⟩
        case measure => simp [intOf]; omega
      · go_wp2
        go_ret
        exact .inl ⟨rfl, hbel⟩
    · have hk' : k = ys.length := by omega
      have HF : Hid (n ≤ 8000 → wtR ys ≤ 8000) := by
        intro hn
        have := HL.out hn
        rw [hk', List.take_length] at this
        omega
      have k1 : ¬ (k : Int) < ys.length := by omega
      clear HL
      by_cases hn : n ≤ 8000
      · go_wp2
        go_ret
        exact .inr ⟨rfl, hbel, HF.out hn⟩
      · go_wp2
        go_ret
        exact .inl ⟨rfl, hbel⟩
theorem wtR_len (ys : List Rc) : ys.length * 20 ≤ wtR ys := by
  induction ys with
  | nil => simp [wtR]
  | cons y ys ih => simp only [wtR, List.map_cons, List.sum_cons, List.length_cons] at *; omega
theorem wtR_mem {ys : List Rc} {y : Rc} (h : y ∈ ys) : 20 + y.zs.length ≤ wtR ys := by
  induction ys with
  | nil => cases h
  | cons x ys ih =>
    simp only [wtR, List.map_cons, List.sum_cons] at *
    rcases List.mem_cons.1 h with rfl | h
    · omega
    · have := ih h; omega
end Go.Proofs.Ytfkchnjbbbhmjaa.Ty
namespace Go.Proofs.Ytfkchnjbbbhmjaa
open Go Go.RowKit
section
variable {P : Program} {ops : Array Oper} {Q : Exit → Act → World → Prop}
theorem hs_more {S S' : World → Prop} (h : ∀ w, S' w → S w) : ∀ (fuel : Nat) (listed : Array Bool) (a : Act) (w : World), HeldS P ops Q S' fuel listed a w → HeldS P ops Q S fuel listed a w
  | 0, _, _, _, k => k
  | fuel + 1, _, _, _, k => ⟨k.1, fun i hi => wpOp_mono (fun a' w' k' => ⟨h w' k'.1, hs_more h fuel _ a' w' k'.2⟩) (k.2 i hi)⟩
end
end Go.Proofs.Ytfkchnjbbbhmjaa
namespace Go.Proofs.Ytfkchnjbbbhmjaa.Ty
open Go.RowKit
open Tal
theorem Recs.below {w w' : World} {a : Option Addr} {rs : List Rc} (h : Recs w a rs) (hb : Below w.heap.size w w') : Recs w' a rs := by
  refine ⟨h.le, ?_, fun x hx => (h.rows x hx).below hb⟩
  rcases h.at0 with q | ⟨b, off, q1, q2, q3⟩
  · exact .inl q
  · exact .inr ⟨b, off, q1, Nat.lt_of_lt_of_le q2 hb.size, range_below q3 hb q2⟩
set_option maxRecDepth 100000 in
set_option maxHeartbeats 8000000 in
theorem frames_walk (kind : Int) (a1 : Option Addr) (c1 : Nat) (rec : List Int) (a2 : Option Addr) (c2 : Nat) (bs : List Int) (hk : 0 ≤ kind ∧ kind < 256) (W : World) (hrec : RowAt W a1 rec) (hbs : RowAt W a2 bs) (hc : bs.length ≤ c2) (hcm : c2 ≤ maxLen) :
    Calls Try.prog 7 #[.int .u8 kind, .slice a1 rec.length c1, .slice a2 bs.length c2] W fun e w' => e = .returned (.bool true) ∧ Below W.heap.size W w' := by
  have hB0 : Below W.heap.size W (W.alloc (.cells #[.slice a1 rec.length c1, .slice a2 bs.length c2] 29)) := (Below.refl _ _).alloc (Nat.le_refl _) _
  have hR0 : Recs (W.alloc (.cells #[.slice a1 rec.length c1, .slice a2 bs.length c2] 29)) (some ⟨W.heap.size, 0, none⟩) [⟨a1, c1, rec⟩, ⟨a2, c2, bs⟩] := by
    refine ⟨by simp, .inr ⟨W.heap.size, 0, rfl, by simp, range_new W #[.slice a1 rec.length c1, .slice a2 bs.length c2] 29⟩, fun x hx => ?_⟩
    rcases List.mem_cons.1 hx with rfl | hx
    · exact hrec.below hB0
    · rw [List.mem_singleton.1 hx]; exact hbs.below hB0
  have cL := Light16_any (some ⟨W.heap.size, 0, none⟩) 2 [⟨a1, c1, rec⟩, ⟨a2, c2, bs⟩] _ hR0
  clear hR0
  go_enter Try.func7, Try.ntmps7
  go_wp2_with (refine cL.mono ?_)
  rintro e w1 (⟨rfl, hB1⟩ | ⟨rfl, hB1, hwt⟩)
  · clear cL
    have cV := lives16_any w1
    go_wp2_with fail
    refine cV.mono ?_
    rintro e w2 ⟨rfl, hB2⟩
    clear cV
    go_wp2
    go_ret
    exact ⟨rfl, (hB0.trans (hB1.mono hB0.size)).trans (hB2.mono (Nat.le_trans hB0.size hB1.size))⟩
  · clear cL
    have hl1 : rec.length ≤ 100000000 := by have := wtR_mem (ys := [⟨a1, c1, rec⟩, ⟨a2, c2, bs⟩]) (y := ⟨a1, c1, rec⟩) (by simp); simp only at this; omega
    have hl2 : bs.length ≤ 100000000 := by have := wtR_mem (ys := [⟨a1, c1, rec⟩, ⟨a2, c2, bs⟩]) (y := ⟨a2, c2, bs⟩) (by simp); simp only at this; omega
    have hB01 := hB0.trans (hB1.mono hB0.size)
    have hrec1 := hrec.below hB01
    have hbs1 := hbs.below hB01
    clear hwt hB0 hB1 hrec hbs
    have cF := frames_any a2 c2 bs w1 hbs1 hc hcm hl2
    go_wp2_with fail
    refine cF.mono ?_
    rintro e w2 ⟨⟨vk, vr, rs, rfl, hO, hzs, -⟩, hB2⟩
    clear cF
    have cX := xframes_any a2 c2 bs w2 (hbs1.below hB2) hc hcm hl2
    have hfl : (framesW bs).length ≤ bs.length := by
      rw [framesW_fits hbs1.2.1]
      exact Nat.le_trans (List.takeWhile_sublist _).length_le (fitsW_len hbs1.2.1)
    obtain ⟨fs, hfs⟩ : ∃ fs, Hid (framesW bs = fs) := ⟨_, hide rfl⟩
    rw [hfs.out] at cX hfl hO hzs
    go_wp2_with fail
    refine cX.mono ?_
    rintro e w3 ⟨⟨vk', vr', ss, rfl, hO', hzs'⟩, hB3⟩
    clear cX hfs
    have hrl1 : rs.length = fs.length := by simpa using congrArg List.length hzs
    have hrl2 : ss.length = fs.length := by simpa using congrArg List.length hzs'
    have hzz : rs.map Rc.zs = ss.map Rc.zs := by rw [hzs, hzs']
    obtain ⟨ar, cr, rfl, hRA⟩ := hO.recs (by omega)
    obtain ⟨br, dr, rfl, hRB⟩ := hO'.recs (by omega)
    obtain ⟨ak, ck, rfl, -, -, hkA⟩ := own_bytes hO.k hO.kb (by rw [List.length_map]; unfold maxLen; omega)
    obtain ⟨bk, dk, rfl, -, -, hkB⟩ := own_bytes hO'.k hO'.kb (by rw [List.length_map]; unfold maxLen; omega)
    have hkA := hkA.below hB3
    have hRA := hRA.below hB3
    obtain ⟨ks, hks⟩ : ∃ ks, Hid (fs.map Fr.k = ks) := ⟨_, hide rfl⟩
    have hkl : (fs.map Fr.k).length = fs.length := List.length_map _
    rw [hks.out] at hkA hkB hkl
    rw [hks.out]
    have hrec3 := (hrec1.below hB2).below hB3
    have hBW3 : Below W.heap.size W w3 := (hB01.trans (hB2.mono hB01.size)).trans (hB3.mono (Nat.le_trans hB01.size hB2.size))
    clear hO hO' hzs hzs' hks hrec1 hbs1 hB2 hB3 hB01
    go_wp2_with fail
    obtain ⟨w8, hw8⟩ : ∃ w8, w3.drew = w8 := ⟨_, rfl⟩
    have hB8 : Below w3.heap.size w3 w8 := by rw [← hw8]; exact (Below.refl _ _).drew
    have hrec := hrec3.below hB8
    have hkA := hkA.below hB8
    have hkB := hkB.below hB8
    have hRA := hRA.below hB8
    have hRB := hRB.below hB8
    have cJ := frame_any kind a1 c1 rec w8 hrec hk hl1
    obtain ⟨FL, hFL⟩ : ∃ FL, Hid (frameL kind (strOf rec) = FL) := ⟨_, hide rfl⟩
    have hFl : FL.length ≤ maxLen := by
      have := frameL_len kind rec hl1
      rw [hFL.out] at this
      unfold maxLen; omega
    rw [hFL.out] at cJ
    refine hs_begin (S := (Below w8.heap.size w8)) 25 rfl (by kernel_rfl) ?_
    rw [hw8]
    clear hw8
    have hS : (Below w8.heap.size w8) w8 := Below.refl _ _
    refine hs_take (i := 0) (d := some 27) (v := ?_) rfl (by kernel_rfl) (by kernel_rfl) (by kernel_rfl) (by rfl) ?_ hS rfl ?_
    rotate_left
    · intro w' hw
      go_simp
      try with_reducible rfl
    simp only [Act.put, List.setIfInBounds_toArray, List.set_cons_zero, List.set_cons_succ]
    refine hs_take (i := 1) (d := some 28) (v := ?_) rfl (by kernel_rfl) (by kernel_rfl) (by kernel_rfl) (by rfl) ?_ hS rfl ?_
    rotate_left
    · intro w' hw
      go_simp
      try with_reducible rfl
    simp only [Act.put, List.setIfInBounds_toArray, List.set_cons_zero, List.set_cons_succ]
    refine hs_take (i := 4) (d := some 31) (v := ?_) rfl (by kernel_rfl) (by kernel_rfl) (by kernel_rfl) (by rfl) ?_ hS rfl ?_
    rotate_left
    · intro w' hw
      go_simp
      try with_reducible rfl
    simp only [Act.put, List.setIfInBounds_toArray, List.set_cons_zero, List.set_cons_succ]
    refine hs_take (i := 5) (d := some 32) (v := ?_) rfl (by kernel_rfl) (by kernel_rfl) (by kernel_rfl) (by rfl) ?_ hS rfl ?_
    rotate_left
    · intro w' hw
      go_simp
      try with_reducible rfl
    simp only [Act.put, List.setIfInBounds_toArray, List.set_cons_zero, List.set_cons_succ]
    refine hs_call (i := 2) (d := some 29) rfl (by kernel_rfl) (by rfl) (by go_simp; first | done | exact ⟨rfl, rfl⟩ | with_reducible rfl) rfl ?_
    refine (cJ).mono ?_
    rintro e' w9 ⟨v9, rfl, hM9, hB9⟩
    obtain ⟨a9, cap9, rfl, -, -, hr9⟩ := hM9.rowAt hFl
    have hS : (Below w8.heap.size w8) w9 := hB9
    refine ⟨_, rfl, hS, ?_⟩
    simp only [Act.put, List.setIfInBounds_toArray, List.set_cons_zero, List.set_cons_succ]
    refine hs_more (S' := (Below w9.heap.size w9)) (fun _ hh => (hB9).trans (hh.mono (hB9).size)) _ _ _ _ ?_
    have hS : (Below w9.heap.size w9) w9 := Below.refl _ _
    refine hs_take (i := 3) (d := some 30) (v := .string (strOf FL)) rfl (by kernel_rfl) (by kernel_rfl) (by kernel_rfl) (by rfl) (fun w' hw => by have := _root_.Go.Proofs.Ytfkchnjbbbhmjaa.row_str (cap := cap9) (hr9.below hw); go_simp) hS rfl ?_
    simp only [Act.put, List.setIfInBounds_toArray, List.set_cons_zero, List.set_cons_succ]
    have cX := xframe_any kind a1 c1 rec w9 ((hrec.below hB9)) hk hl1
    rw [hFL.out] at cX
    refine hs_call (i := 6) (d := some 33) rfl (by kernel_rfl) (by rfl) (by go_simp; first | done | exact ⟨rfl, rfl⟩ | with_reducible rfl) rfl ?_
    refine (cX).mono ?_
    rintro e' w10 ⟨v10, rfl, hM10, hB10⟩
    obtain ⟨a10, cap10, rfl, -, -, hr10⟩ := hM10.rowAt hFl
    have hS : (Below w9.heap.size w9) w10 := hB10
    refine ⟨_, rfl, hS, ?_⟩
    simp only [Act.put, List.setIfInBounds_toArray, List.set_cons_zero, List.set_cons_succ]
    refine hs_more (S' := (Below w10.heap.size w10)) (fun _ hh => (hB10).trans (hh.mono (hB10).size)) _ _ _ _ ?_
    have hS : (Below w10.heap.size w10) w10 := Below.refl _ _
    refine hs_take (i := 7) (d := some 34) (v := .string (strOf FL)) rfl (by kernel_rfl) (by kernel_rfl) (by kernel_rfl) (by rfl) (fun w' hw => by have := _root_.Go.Proofs.Ytfkchnjbbbhmjaa.row_str (cap := cap10) (hr10.below hw); go_simp) hS rfl ?_
    simp only [Act.put, List.setIfInBounds_toArray, List.set_cons_zero, List.set_cons_succ]
    refine hs_take (i := 8) (d := some 35) (v := .bool true) rfl (by kernel_rfl) (by kernel_rfl) (by kernel_rfl) (by rfl) (fun w' hw => by go_simp) hS rfl ?_
    simp only [Act.put, List.setIfInBounds_toArray, List.set_cons_zero, List.set_cons_succ]
    refine hs_take (i := 9) (d := some 36) (v := ?_) rfl (by kernel_rfl) (by kernel_rfl) (by kernel_rfl) (by rfl) ?_ hS rfl ?_
    rotate_left
    · intro w' hw
      go_simp
      try with_reducible rfl
    simp only [Act.put, List.setIfInBounds_toArray, List.set_cons_zero, List.set_cons_succ]
    refine hs_take (i := 10) (d := some 37) (v := ?_) rfl (by kernel_rfl) (by kernel_rfl) (by kernel_rfl) (by rfl) ?_ hS rfl ?_
    rotate_left
    · intro w' hw
      go_simp
      try with_reducible rfl
    simp only [Act.put, List.setIfInBounds_toArray, List.set_cons_zero, List.set_cons_succ]
    refine hs_take (i := 12) (d := some 39) (v := ?_) rfl (by kernel_rfl) (by kernel_rfl) (by kernel_rfl) (by rfl) ?_ hS rfl ?_
    rotate_left
    · intro w' hw
      go_simp
      try with_reducible rfl
    simp only [Act.put, List.setIfInBounds_toArray, List.set_cons_zero, List.set_cons_succ]
    have hB810 : Below w8.heap.size w8 w10 := hB9.trans (hB10.mono hB9.size)
    have hkA10 := hkA.below hB810
    have hkB10 := hkB.below hB810
    refine hs_take (i := 11) (d := some 38) (v := .string (strOf ks)) rfl (by kernel_rfl) (by kernel_rfl) (by kernel_rfl) (by rfl) (fun w' hw => by have := _root_.Go.Proofs.Ytfkchnjbbbhmjaa.row_str (cap := ck) (hkA10.below hw); rw [hkl] at this; go_simp) hS rfl ?_
    simp only [Act.put, List.setIfInBounds_toArray, List.set_cons_zero, List.set_cons_succ]
    refine hs_take (i := 13) (d := some 40) (v := .string (strOf ks)) rfl (by kernel_rfl) (by kernel_rfl) (by kernel_rfl) (by rfl) (fun w' hw => by have := _root_.Go.Proofs.Ytfkchnjbbbhmjaa.row_str (cap := dk) (hkB10.below hw); rw [hkl] at this; go_simp) hS rfl ?_
    simp only [Act.put, List.setIfInBounds_toArray, List.set_cons_zero, List.set_cons_succ]
    refine hs_take (i := 14) (d := some 41) (v := .bool true) rfl (by kernel_rfl) (by kernel_rfl) (by kernel_rfl) (by rfl) (fun w' hw => by go_simp) hS rfl ?_
    simp only [Act.put, List.setIfInBounds_toArray, List.set_cons_zero, List.set_cons_succ]
    refine hs_take (i := 15) (d := some 42) (v := .bool true) rfl (by kernel_rfl) (by kernel_rfl) (by kernel_rfl) (by rfl) (fun w' hw => by go_simp) hS rfl ?_
    simp only [Act.put, List.setIfInBounds_toArray, List.set_cons_zero, List.set_cons_succ]
    refine hs_take (i := 16) (d := some 43) (v := ?_) rfl (by kernel_rfl) (by kernel_rfl) (by kernel_rfl) (by rfl) ?_ hS rfl ?_
    rotate_left
    · intro w' hw
      go_simp
      try with_reducible rfl
    simp only [Act.put, List.setIfInBounds_toArray, List.set_cons_zero, List.set_cons_succ]
    refine hs_take (i := 17) (d := some 44) (v := ?_) rfl (by kernel_rfl) (by kernel_rfl) (by kernel_rfl) (by rfl) ?_ hS rfl ?_
    rotate_left
    · intro w' hw
      go_simp
      try with_reducible rfl
    simp only [Act.put, List.setIfInBounds_toArray, List.set_cons_zero, List.set_cons_succ]
    refine hs_take (i := 18) (d := some 45) (v := ?_) rfl (by kernel_rfl) (by kernel_rfl) (by kernel_rfl) (by rfl) ?_ hS rfl ?_
    rotate_left
    · intro w' hw
      go_simp
      try with_reducible rfl
    simp only [Act.put, List.setIfInBounds_toArray, List.set_cons_zero, List.set_cons_succ]
    have cS := xsame_any ar br cr dr rs ss w10 (hRA.below hB810) (hRB.below hB810) hzz
    simp only [hrl1, hrl2] at cS
    refine hs_call (i := 19) (d := some 46) rfl (by kernel_rfl) (by rfl) (by go_simp; first | done | exact ⟨rfl, rfl⟩ | with_reducible rfl) rfl ?_
    refine (cS).mono ?_
    rintro e' w11 ⟨rfl, hB11⟩
    have hS : (Below w10.heap.size w10) w11 := hB11
    refine ⟨_, rfl, hS, ?_⟩
    simp only [Act.put, List.setIfInBounds_toArray, List.set_cons_zero, List.set_cons_succ]
    refine hs_take (i := 20) (d := some 47) (v := .bool true) rfl (by kernel_rfl) (by kernel_rfl) (by kernel_rfl) (by rfl) (fun w' hw => by go_simp) hS rfl ?_
    simp only [Act.put, List.setIfInBounds_toArray, List.set_cons_zero, List.set_cons_succ]
    refine hs_take (i := 21) (d := some 48) (v := ?_) rfl (by kernel_rfl) (by kernel_rfl) (by kernel_rfl) (by rfl) ?_ hS rfl ?_
    rotate_left
    · intro w' hw
      go_simp
      try with_reducible rfl
    simp only [Act.put, List.setIfInBounds_toArray, List.set_cons_zero, List.set_cons_succ]
    have cL := lives16_any w11
    refine hs_call (i := 22) (d := some 49) rfl (by kernel_rfl) (by rfl) (by go_simp; first | done | exact ⟨rfl, rfl⟩ | with_reducible rfl) rfl ?_
    refine (cL).mono ?_
    rintro e' w12 ⟨rfl, hB12⟩
    have hS : (Below w10.heap.size w10) w12 := hB11.trans (hB12.mono hB11.size)
    refine ⟨_, rfl, hS, ?_⟩
    simp only [Act.put, List.setIfInBounds_toArray, List.set_cons_zero, List.set_cons_succ]
    refine hs_take (i := 23) (d := some 50) (v := .bool true) rfl (by kernel_rfl) (by kernel_rfl) (by kernel_rfl) (by rfl) (fun w' hw => by go_simp) hS rfl ?_
    simp only [Act.put, List.setIfInBounds_toArray, List.set_cons_zero, List.set_cons_succ]
    refine hs_take (i := 24) (d := some 6) (v := .bool true) rfl (by kernel_rfl) (by kernel_rfl) (by kernel_rfl) (by rfl) (fun w' hw => by go_simp) hS rfl ?_
    simp only [Act.put, List.setIfInBounds_toArray, List.set_cons_zero, List.set_cons_succ]
    refine hs_done (by kernel_rfl) ?_
    go_wp2
    go_ret
    have h1 := hBW3.trans (hB8.mono hBW3.size)
    have h2 := h1.trans (hB810.mono h1.size)
    have h3 := h2.trans (hB11.mono h2.size)
    exact ⟨rfl, h3.trans (hB12.mono h3.size)⟩
end Go.Proofs.Ytfkchnjbbbhmjaa.Ty
namespace Go.Proofs.Ytfkchnjbbbhmjaa
open Go.ChangeShapes Go.WideShapes Go.ChangeAt Go.RowKit
set_option maxRecDepth 100000 in
theorem open_bytes {H : Type} {enc : TypeId × Value → H} {W : World} {base b : Nat} {sp : Nat → Bool} {held : Bool} {fuel : Nat} {v : Value} {x : DataW H × List MemPlace} (hv : Value.okWide Try.prog W .any base 29 v)
    (h : DataW.trod enc Try.prog W b sp held fuel 29 v.cells.toList = some x) : ∃ (a : Option Addr) (cap : Nat) (zs : List Int), v = .slice a zs.length cap ∧ zs.length ≤ cap ∧ cap ≤ maxLen ∧ RowAt W a zs := by
  obtain ⟨a0, len, cap, rfl⟩ := okWide_slice Try.underlying29 hv
  obtain ⟨a, cap', ys, h1, h2, h3, h4⟩ := bytes_of h
  simp [Value.cells] at h1
  obtain ⟨rfl, rfl, rfl⟩ := h1
  exact ⟨a0, cap, ys, rfl, h2, h3, h4⟩
set_option maxRecDepth 100000 in
theorem parts_of {H : Type} {enc : TypeId × Value → H} {W : World} {b : Nat} {sp : Nat → Bool} {held : Bool} {fuel : Nat} {l : List Value} {x : DataW H × List MemPlace}
    (h : DataW.trod enc Try.prog W b sp held fuel 62 l = some x) : ∃ (a : Option Addr) (cap : Nat) (ys : List Rc), l = [.slice a ys.length cap] ∧ ys.length ≤ cap ∧ cap ≤ maxLen ∧ (∀ y ∈ ys, y.ok W) ∧ RowOf Rc.cells W a ys :=
  rows_of Rc.cells (Rc.ok W) 1 (by omega) 62 29 Try.underlying62 (by kernel_rfl) (fun _ _ => rfl) (fun m l z hz => by
    obtain ⟨a, cap, zs, h1, h2, h3, h4⟩ := bytes_of hz
    exact ⟨⟨a, cap, zs⟩, h1, h4, h2, h3⟩) h
set_option maxRecDepth 100000 in
theorem open_parts {H : Type} {enc : TypeId × Value → H} {W : World} {base b : Nat} {sp : Nat → Bool} {held : Bool} {fuel : Nat} {v : Value} {x : DataW H × List MemPlace} (hv : Value.okWide Try.prog W .any base 62 v)
    (h : DataW.trod enc Try.prog W b sp held fuel 62 v.cells.toList = some x) : ∃ (a : Option Addr) (cap : Nat) (ys : List Rc), v = .slice a ys.length cap ∧ ys.length ≤ cap ∧ cap ≤ maxLen ∧ (∀ y ∈ ys, y.ok W) ∧ RowOf Rc.cells W a ys := by
  obtain ⟨a0, len, cap, rfl⟩ := okWide_slice Try.underlying62 hv
  obtain ⟨a, cap', ys, h1, h2, h3, h4, h5⟩ := parts_of h
  simp [Value.cells] at h1
  obtain ⟨rfl, rfl, rfl⟩ := h1
  exact ⟨a0, cap, ys, rfl, h2, h3, h4, h5⟩
theorem wf8 {z : Int} (h : (Lit.int .u8 z).wf = true) : 0 ≤ z ∧ z < 256 := by
  simp [Lit.wf, IntKind.min, IntKind.max, IntKind.signed, IntKind.bits] at h
  omega
end Go.Proofs.Ytfkchnjbbbhmjaa
namespace Go.Proofs.Ytfkchnjbbbhmjaa.journalFrames
open Go.ChangeShapes Go.WideShapes Go.ChangeAt Go.RowKit
open Go.ChangeMaps (open_string shut_string)
set_option linter.unusedVariables false
set_option maxRecDepth 100000 in
theorem lifted (os : Os) (started : os.Started) (H : Type) (enc : TypeId × Value → H) :
    ReturnsInHanded {} Try.checked os 7 .any (Rows.journalFramesSpec.pre6 enc Try.prog Try.f7 Rows.journalFramesRow.domain false) (Rows.journalFramesSpec.post enc Try.prog Try.f7 false true false false) := by
  refine returnsInHanded_of_change (C := Try.checked) own started (by kernel_rfl) Try.func7
    (ChangeSpec.witness6 (enc := enc) (C := Try.checked) false ⟨#[], #[.int .u8 0, .slice none 0 0, .slice none 0 0], []⟩ 8 (by kernel_rfl) (by kernel_rfl) (by kernel_rfl) (by kernel_rfl)) ?_
  intro W base args ds gs before hval0 hW hcnd _
  have hval : ∀ (j : Nat) t v, Try.f7.params[j]? = some t → args[j]? = some v → Value.okWide Try.prog W .any base t v := hval0
  have hW' := hW
  obtain ⟨p, q, hA0, hV, rfl, hfz, hnd⟩ := hW
  have hA : DataW.TrodAll enc Try.prog W 0 (fun _ => true) true Try.f7.params.toList args.toList ds p := hA0
  rw [Try.params7] at hA hval
  obtain ⟨v0, vs0, d0, ds0, p0, q0, hargs, rfl, rfl, h0, r0⟩ := trodAll_cons hA
  obtain ⟨v1, vs1, d1, ds1, p1, q1, rfl, rfl, rfl, h1, r1⟩ := trodAll_cons r0
  obtain ⟨v2, vs2, d2, ds2, p2, q2, rfl, rfl, rfl, h2, r2⟩ := trodAll_cons r1
  obtain ⟨rfl, rfl, rfl⟩ := trodAll_nil r2
  obtain rfl : args = #[v0, v1, v2] := by cases args; simp_all
  obtain ⟨rfl, rfl⟩ := trodVars_none hV
  have k0 := h0
  have lt0 : ∀ x ∈ p0, x.block < W.heap.size := by obtain ⟨m, hm⟩ := k0; exact DataW.trod_lt m _ _ _ hm
  obtain ⟨a0, rfl, rfl, rfl, w0⟩ := open_int Try.underlying5 (hval 0 5 v0 rfl rfl) h0
  have k1 := h1
  have lt1 : ∀ x ∈ p1, x.block < W.heap.size := by obtain ⟨m, hm⟩ := k1; exact DataW.trod_lt m _ _ _ hm
  obtain ⟨fuel1, hf1⟩ := h1
  obtain ⟨al1, cl1, zs1, rfl, le1, lm1, row1⟩ := open_bytes (hval 1 29 v1 rfl rfl) hf1
  have k2 := h2
  have lt2 : ∀ x ∈ p2, x.block < W.heap.size := by obtain ⟨m, hm⟩ := k2; exact DataW.trod_lt m _ _ _ hm
  obtain ⟨fuel2, hf2⟩ := h2
  obtain ⟨al2, cl2, zs2, rfl, le2, lm2, row2⟩ := open_bytes (hval 2 29 v2 rfl rfl) hf2
  clear hA0 hval0
  refine (Ty.frames_walk a0 al1 cl1 zs1 al2 cl2 zs2 (wf8 w0) W row1 row2 le2 lm2).mono fun e W' ⟨he, bel⟩ => ?_
  subst he
  exact ⟨_, rfl, _, _, _, [], _, [], hW', trodAll_mk1 (shut_bool Try.underlying4 _), (trodAll_cons_mk (Below.trod laidOut (by kernel_rfl) (of_decide_eq_true (by kernel_rfl)) k0 bel lt0) (trodAll_cons_mk (Below.trod laidOut (by kernel_rfl) (of_decide_eq_true (by kernel_rfl)) k1 bel lt1) (trodAll_cons_mk (Below.trod laidOut (by kernel_rfl) (of_decide_eq_true (by kernel_rfl)) k2 bel lt2) trodAll_mk0))), rfl, bel.frame _, fun h => by cases h⟩
theorem over : Rows.journalFramesRow.holds Try.pinned (OpenSpec.ofChange Rows.journalFramesSpec) :=
  OpenClaim.holds_of_wide 7 Try.f7 rfl rfl rfl rfl rfl rfl rfl ⟨rfl, rfl, rfl, rfl, rfl⟩ rfl rfl rfl rfl rfl (by kernel_rfl) Try.func7 (by kernel_rfl)
    (of_decide_eq_true (by kernel_rfl)) (by unfold Func.isWrapper; first | (rw [if_pos (by decide +kernel)]; kernel_rfl) | (rw [if_neg (by decide +kernel)]; exact ⟨rfl, rfl⟩))
    (fun os started H enc _ => lifted os started H enc)
end Go.Proofs.Ytfkchnjbbbhmjaa.journalFrames
namespace Go.Proofs.Ytfkchnjbbbhmjaa
theorem journalFrames_holds : Rows.JournalFramesSaid := journalFrames.over
#print axioms journalFrames_holds
end Go.Proofs.Ytfkchnjbbbhmjaa
