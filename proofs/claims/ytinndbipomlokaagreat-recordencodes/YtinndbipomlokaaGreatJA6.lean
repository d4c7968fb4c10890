/- allMay; which requests, signs, envelopes, batches, certs may be; which certs and changes may be; fieldsMay; Good -/
import Derived.Test.YtinndbipomlokaaGreatJA0
import Derived.Test.YtinndbipomlokaaGreatJA5
namespace Go.Proofs.YtinndbipomlokaaGreat
open Go.RowKit
open Sha Tal
def Sg.zero : Sg := ⟨0, List.replicate 16 0⟩
def Ev.zero : Ev := ⟨0, ⟨#[]⟩, List.replicate 16 0⟩
def Rq.zero : Rq := ⟨0, 0, ⟨#[]⟩, List.replicate 16 0⟩
def mayL {α : Type} (most : Int) (p : α → Bool) (xs : List α) : Bool := decide ((xs.length : Int) ≤ most) && xs.all p
set_option maxRecDepth 100000 in
set_option maxHeartbeats 4000000 in
theorem allS_any (x : Sl Sg) (most : Int) (p : Sg → Bool) (w : World) (hx : x.At SgE w) (hp : ∀ y ∈ x.xs, ∀ w0, Below w.heap.size w w0 → Calls Tryz.prog 139 #[.agg y.cells.toArray] w0 fun e w' => e = .returned (.bool (p y)) ∧ Below w0.heap.size w0 w') :
  Calls Tryz.prog 138 #[x.val, .int .i64 most, .func (.func 139) #[] #[]] w fun e w' => e = .returned (.bool (mayL most p x.xs)) ∧ Below w.heap.size w w' := by
 obtain ⟨a, cap, xs⟩ := x
 have hml : xs.length ≤ maxLen := hx.1
 unfold maxLen at hml
 simp only [Sl.val]
 unfold mayL
 by_cases hlen : (xs.length : Int) ≤ most
 rotate_left
 ·rw [decide_eq_false hlen, Bool.false_and]
  have k0 : most < (xs.length : Int) := by omega
  clear hlen hp
  go_enter Tryz.func138, Tryz.ntmps138
  go_wp2
  go_ret
  exact ⟨rfl, Below.refl _ _⟩
 ·rw [decide_eq_true hlen, Bool.true_and]
  have k0 : ¬ most < (xs.length : Int) := by omega
  clear hlen
  obtain ⟨sb, hsb⟩ : ∃ sb, Hid (xs.all p = sb) := ⟨_, hide rfl⟩
  rw [hsb.out]
  go_enter Tryz.func138, Tryz.ntmps138
  go_wp2
  go_loopw [15] (fun iv wr' => ∃ k : Nat, k ≤ xs.length ∧ iv = .int .i64 (k : Int) ∧ Hid (∀ j (hj : j < xs.length), j < k → p xs[j] = true) ∧ Below w.heap.size w wr') (fun iv _ => xs.length - (intOf iv).toNat)
  case atStart => exact ⟨0, by omega, rfl, hide (fun j _ hj => absurd hj (by omega)), Below.refl _ _⟩
  case round =>
   clear k0
   obtain ⟨k, hk, rfl, HM, hB⟩ := hrel
   by_cases hlt : k < xs.length
   ·have k1 : (k : Int) < xs.length := by omega
    obtain ⟨b, off, rfl, hb, hre⟩ := RowsAt.elem (hx.below hB) k hlt
    have hre : wr.rangeAt b (off + k * 17) xs[k].cells := hre
    have okx : SgE.ok xs[k] := hx.2.1 _ (List.getElem_mem hlt)
    have hpk := fun w0 h0 => hp xs[k] (List.getElem_mem hlt) w0 h0
    have HT : Hid (p xs[k] = true → ∀ j (hj : j < xs.length), j < k + 1 → p xs[j] = true) := hide (fun h j hj hjk => by
     by_cases e : j = k
     ·subst e; exact h
     ·exact HM.out j hj (by omega))
    have HF : Hid (p xs[k] = false → sb = false) := hide (fun h => by
     rw [← hsb.out]
     rw [List.all_eq_false]
     exact ⟨xs[k], List.getElem_mem hlt, by rw [h]; simp⟩)
    obtain ⟨gx, hX⟩ : ∃ g, Hid (xs[k] = g) := ⟨_, hide rfl⟩
    rw [hX.out] at hre okx hpk HT HF
    clear hX HM
    have lu : gx.cells.length = 17 := SgE.len _ okx
    have ou : gx.cells.toArray.all (·.oneCell') = true := all_oneCell_toArray (SgE.one gx)
    generalize gx.cells = u at *
    generalize p gx = pb at *
    clear okx
    have iu : (Tryz.prog.info? 110).map (·.size) = some u.length := by rw [lu]; kernel_rfl
    have iA : (Tryz.prog.info? 110).map (·.size) = some u.toArray.size := by rw [List.size_toArray, lu]; kernel_rfl
    have zl : Sg.zero.cells.toArray.size = 17 := rfl
    obtain ⟨r5, hB5, hs5, _⟩ := fresh_store wr Sg.zero.cells.toArray 110 u (by rw [lu]; rfl)
    have hT5 : (wr.alloc (.cells Sg.zero.cells.toArray 110)).there wr.heap.size 0 u.toArray.size := by
     have := there_new wr Sg.zero.cells.toArray 110
     rw [zl] at this
     rw [show u.toArray.size = 17 by simpa using lu]
     exact this
    go_upto_region 6 with (first | (refine wpList_load_mid rfl 110 _ rfl _ _ rfl u _ hre Tryz.underlying110 rfl iu ?_) | (refine wpList_store_mid rfl 110 _ _ rfl _ _ u.toArray rfl rfl hT5 iA ou ?_))
    go_name_world w5 hw5
    rw [show (wr.alloc (.cells Sg.zero.cells.toArray 110)).setCells wr.heap.size 0 u = w5 from hw5] at r5 hB5 hs5
    have hB6 := hB.trans (hB5.mono hB.size)
    have c7 := hpk w5 hB6
    clear hw5 hs5 hT5 hre hpk hB5
    go_wp2_with (refine wpList_load_mid rfl 110 _ rfl _ _ rfl u _ r5 Tryz.underlying110 rfl iu ?_)
    refine c7.mono ?_
    rintro e8 w8 ⟨rfl, hb8⟩
    have hB8 := hB6.trans (hb8.mono hB6.size)
    clear c7 hb8 r5 hB6
    cases pb
    ·have HF' := hide (HF.out rfl)
     clear HF HT hsb
     go_wp2
     go_ret
     exact ⟨by rw [HF'.out]; rfl, hB8⟩
    ·have HT' := hide (HT.out rfl)
     clear HF HT
     go_wp2
     go_roundw
     case rel => exact ⟨k + 1, by omega, by go_num, HT', hB8⟩
     case measure => simp [intOf]; omega
   ·have k1 : ¬ (k : Int) < xs.length := by omega
    have HE : Hid (sb = true) := hide (by
     rw [← hsb.out]
     rw [List.all_eq_true]
     intro y hy
     obtain ⟨j, hj, rfl⟩ := List.mem_iff_getElem.1 hy
     exact HM.out j hj (by omega))
    clear HM hsb
    go_wp2
    go_ret
    exact ⟨by rw [HE.out]; rfl, hB⟩
set_option maxRecDepth 100000 in
set_option maxHeartbeats 4000000 in
theorem allE_any (x : Sl Ev) (most : Int) (p : Ev → Bool) (w : World) (hx : x.At EvE w) (hp : ∀ y ∈ x.xs, ∀ w0, Below w.heap.size w w0 → Calls Tryz.prog 98 #[.agg y.cells.toArray] w0 fun e w' => e = .returned (.bool (p y)) ∧ Below w0.heap.size w0 w') :
  Calls Tryz.prog 97 #[x.val, .int .i64 most, .func (.func 98) #[] #[]] w fun e w' => e = .returned (.bool (mayL most p x.xs)) ∧ Below w.heap.size w w' := by
 obtain ⟨a, cap, xs⟩ := x
 have hml : xs.length ≤ maxLen := hx.1
 unfold maxLen at hml
 simp only [Sl.val]
 unfold mayL
 by_cases hlen : (xs.length : Int) ≤ most
 rotate_left
 ·rw [decide_eq_false hlen, Bool.false_and]
  have k0 : most < (xs.length : Int) := by omega
  clear hlen hp
  go_enter Tryz.func97, Tryz.ntmps97
  go_wp2
  go_ret
  exact ⟨rfl, Below.refl _ _⟩
 ·rw [decide_eq_true hlen, Bool.true_and]
  have k0 : ¬ most < (xs.length : Int) := by omega
  clear hlen
  obtain ⟨sb, hsb⟩ : ∃ sb, Hid (xs.all p = sb) := ⟨_, hide rfl⟩
  rw [hsb.out]
  go_enter Tryz.func97, Tryz.ntmps97
  go_wp2
  go_loopw [15] (fun iv wr' => ∃ k : Nat, k ≤ xs.length ∧ iv = .int .i64 (k : Int) ∧ Hid (∀ j (hj : j < xs.length), j < k → p xs[j] = true) ∧ Below w.heap.size w wr') (fun iv _ => xs.length - (intOf iv).toNat)
  case atStart => exact ⟨0, by omega, rfl, hide (fun j _ hj => absurd hj (by omega)), Below.refl _ _⟩
  case round =>
   clear k0
   obtain ⟨k, hk, rfl, HM, hB⟩ := hrel
   by_cases hlt : k < xs.length
   ·have k1 : (k : Int) < xs.length := by omega
    obtain ⟨b, off, rfl, hb, hre⟩ := RowsAt.elem (hx.below hB) k hlt
    have hre : wr.rangeAt b (off + k * 18) xs[k].cells := hre
    have okx : EvE.ok xs[k] := hx.2.1 _ (List.getElem_mem hlt)
    have hpk := fun w0 h0 => hp xs[k] (List.getElem_mem hlt) w0 h0
    have HT : Hid (p xs[k] = true → ∀ j (hj : j < xs.length), j < k + 1 → p xs[j] = true) := hide (fun h j hj hjk => by
     by_cases e : j = k
     ·subst e; exact h
     ·exact HM.out j hj (by omega))
    have HF : Hid (p xs[k] = false → sb = false) := hide (fun h => by
     rw [← hsb.out]
     rw [List.all_eq_false]
     exact ⟨xs[k], List.getElem_mem hlt, by rw [h]; simp⟩)
    obtain ⟨gx, hX⟩ : ∃ g, Hid (xs[k] = g) := ⟨_, hide rfl⟩
    rw [hX.out] at hre okx hpk HT HF
    clear hX HM
    have lu : gx.cells.length = 18 := EvE.len _ okx
    have ou : gx.cells.toArray.all (·.oneCell') = true := all_oneCell_toArray (EvE.one gx)
    generalize gx.cells = u at *
    generalize p gx = pb at *
    clear okx
    have iu : (Tryz.prog.info? 108).map (·.size) = some u.length := by rw [lu]; kernel_rfl
    have iA : (Tryz.prog.info? 108).map (·.size) = some u.toArray.size := by rw [List.size_toArray, lu]; kernel_rfl
    have zl : Ev.zero.cells.toArray.size = 18 := rfl
    obtain ⟨r5, hB5, hs5, _⟩ := fresh_store wr Ev.zero.cells.toArray 108 u (by rw [lu]; rfl)
    have hT5 : (wr.alloc (.cells Ev.zero.cells.toArray 108)).there wr.heap.size 0 u.toArray.size := by
     have := there_new wr Ev.zero.cells.toArray 108
     rw [zl] at this
     rw [show u.toArray.size = 18 by simpa using lu]
     exact this
    go_upto_region 6 with (first | (refine wpList_load_mid rfl 108 _ rfl _ _ rfl u _ hre Tryz.underlying108 rfl iu ?_) | (refine wpList_store_mid rfl 108 _ _ rfl _ _ u.toArray rfl rfl hT5 iA ou ?_))
    go_name_world w5 hw5
    rw [show (wr.alloc (.cells Ev.zero.cells.toArray 108)).setCells wr.heap.size 0 u = w5 from hw5] at r5 hB5 hs5
    have hB6 := hB.trans (hB5.mono hB.size)
    have c7 := hpk w5 hB6
    clear hw5 hs5 hT5 hre hpk hB5
    go_wp2_with (refine wpList_load_mid rfl 108 _ rfl _ _ rfl u _ r5 Tryz.underlying108 rfl iu ?_)
    refine c7.mono ?_
    rintro e8 w8 ⟨rfl, hb8⟩
    have hB8 := hB6.trans (hb8.mono hB6.size)
    clear c7 hb8 r5 hB6
    cases pb
    ·have HF' := hide (HF.out rfl)
     clear HF HT hsb
     go_wp2
     go_ret
     exact ⟨by rw [HF'.out]; rfl, hB8⟩
    ·have HT' := hide (HT.out rfl)
     clear HF HT
     go_wp2
     go_roundw
     case rel => exact ⟨k + 1, by omega, by go_num, HT', hB8⟩
     case measure => simp [intOf]; omega
   ·have k1 : ¬ (k : Int) < xs.length := by omega
    have HE : Hid (sb = true) := hide (by
     rw [← hsb.out]
     rw [List.all_eq_true]
     intro y hy
     obtain ⟨j, hj, rfl⟩ := List.mem_iff_getElem.1 hy
     exact HM.out j hj (by omega))
    clear HM hsb
    go_wp2
    go_ret
    exact ⟨by rw [HE.out]; rfl, hB⟩
set_option maxRecDepth 100000 in
set_option maxHeartbeats 4000000 in
theorem allQ_any (x : Sl Rq) (most : Int) (p : Rq → Bool) (w : World) (hx : x.At RqE w) (hp : ∀ y ∈ x.xs, ∀ w0, Below w.heap.size w w0 → Calls Tryz.prog 135 #[.agg y.cells.toArray] w0 fun e w' => e = .returned (.bool (p y)) ∧ Below w0.heap.size w0 w') :
  Calls Tryz.prog 134 #[x.val, .int .i64 most, .func (.func 135) #[] #[]] w fun e w' => e = .returned (.bool (mayL most p x.xs)) ∧ Below w.heap.size w w' := by
 obtain ⟨a, cap, xs⟩ := x
 have hml : xs.length ≤ maxLen := hx.1
 unfold maxLen at hml
 simp only [Sl.val]
 unfold mayL
 by_cases hlen : (xs.length : Int) ≤ most
 rotate_left
 ·rw [decide_eq_false hlen, Bool.false_and]
  have k0 : most < (xs.length : Int) := by omega
  clear hlen hp
  go_enter Tryz.func134, Tryz.ntmps134
  go_wp2
  go_ret
  exact ⟨rfl, Below.refl _ _⟩
 ·rw [decide_eq_true hlen, Bool.true_and]
  have k0 : ¬ most < (xs.length : Int) := by omega
  clear hlen
  obtain ⟨sb, hsb⟩ : ∃ sb, Hid (xs.all p = sb) := ⟨_, hide rfl⟩
  rw [hsb.out]
  go_enter Tryz.func134, Tryz.ntmps134
  go_wp2
  go_loopw [15] (fun iv wr' => ∃ k : Nat, k ≤ xs.length ∧ iv = .int .i64 (k : Int) ∧ Hid (∀ j (hj : j < xs.length), j < k → p xs[j] = true) ∧ Below w.heap.size w wr') (fun iv _ => xs.length - (intOf iv).toNat)
  case atStart => exact ⟨0, by omega, rfl, hide (fun j _ hj => absurd hj (by omega)), Below.refl _ _⟩
  case round =>
   clear k0
   obtain ⟨k, hk, rfl, HM, hB⟩ := hrel
   by_cases hlt : k < xs.length
   ·have k1 : (k : Int) < xs.length := by omega
    obtain ⟨b, off, rfl, hb, hre⟩ := RowsAt.elem (hx.below hB) k hlt
    have hre : wr.rangeAt b (off + k * 19) xs[k].cells := hre
    have okx : RqE.ok xs[k] := hx.2.1 _ (List.getElem_mem hlt)
    have hpk := fun w0 h0 => hp xs[k] (List.getElem_mem hlt) w0 h0
    have HT : Hid (p xs[k] = true → ∀ j (hj : j < xs.length), j < k + 1 → p xs[j] = true) := hide (fun h j hj hjk => by
     by_cases e : j = k
     ·subst e; exact h
     ·exact HM.out j hj (by omega))
    have HF : Hid (p xs[k] = false → sb = false) := hide (fun h => by
     rw [← hsb.out]
     rw [List.all_eq_false]
     exact ⟨xs[k], List.getElem_mem hlt, by rw [h]; simp⟩)
    obtain ⟨gx, hX⟩ : ∃ g, Hid (xs[k] = g) := ⟨_, hide rfl⟩
    rw [hX.out] at hre okx hpk HT HF
    clear hX HM
    have lu : gx.cells.length = 19 := RqE.len _ okx
    have ou : gx.cells.toArray.all (·.oneCell') = true := all_oneCell_toArray (RqE.one gx)
    generalize gx.cells = u at *
    generalize p gx = pb at *
    clear okx
    have iu : (Tryz.prog.info? 91).map (·.size) = some u.length := by rw [lu]; kernel_rfl
    have iA : (Tryz.prog.info? 91).map (·.size) = some u.toArray.size := by rw [List.size_toArray, lu]; kernel_rfl
    have zl : Rq.zero.cells.toArray.size = 19 := rfl
    obtain ⟨r5, hB5, hs5, _⟩ := fresh_store wr Rq.zero.cells.toArray 91 u (by rw [lu]; rfl)
    have hT5 : (wr.alloc (.cells Rq.zero.cells.toArray 91)).there wr.heap.size 0 u.toArray.size := by
     have := there_new wr Rq.zero.cells.toArray 91
     rw [zl] at this
     rw [show u.toArray.size = 19 by simpa using lu]
     exact this
    go_upto_region 6 with (first | (refine wpList_load_mid rfl 91 _ rfl _ _ rfl u _ hre Tryz.underlying91 rfl iu ?_) | (refine wpList_store_mid rfl 91 _ _ rfl _ _ u.toArray rfl rfl hT5 iA ou ?_))
    go_name_world w5 hw5
    rw [show (wr.alloc (.cells Rq.zero.cells.toArray 91)).setCells wr.heap.size 0 u = w5 from hw5] at r5 hB5 hs5
    have hB6 := hB.trans (hB5.mono hB.size)
    have c7 := hpk w5 hB6
    clear hw5 hs5 hT5 hre hpk hB5
    go_wp2_with (refine wpList_load_mid rfl 91 _ rfl _ _ rfl u _ r5 Tryz.underlying91 rfl iu ?_)
    refine c7.mono ?_
    rintro e8 w8 ⟨rfl, hb8⟩
    have hB8 := hB6.trans (hb8.mono hB6.size)
    clear c7 hb8 r5 hB6
    cases pb
    ·have HF' := hide (HF.out rfl)
     clear HF HT hsb
     go_wp2
     go_ret
     exact ⟨by rw [HF'.out]; rfl, hB8⟩
    ·have HT' := hide (HT.out rfl)
     clear HF HT
     go_wp2
     go_roundw
     case rel => exact ⟨k + 1, by omega, by go_num, HT', hB8⟩
     case measure => simp [intOf]; omega
   ·have k1 : ¬ (k : Int) < xs.length := by omega
    have HE : Hid (sb = true) := hide (by
     rw [← hsb.out]
     rw [List.all_eq_true]
     intro y hy
     obtain ⟨j, hj, rfl⟩ := List.mem_iff_getElem.1 hy
     exact HM.out j hj (by omega))
    clear HM hsb
    go_wp2
    go_ret
    exact ⟨by rw [HE.out]; rfl, hB⟩
set_option maxRecDepth 100000 in
set_option maxHeartbeats 4000000 in
theorem allH_any (x : Sl Hd) (most : Int) (p : Hd → Bool) (w : World) (hx : x.At HdE w) (hp : ∀ y ∈ x.xs, ∀ w0, Below w.heap.size w w0 → Calls Tryz.prog 137 #[.agg y.cells.toArray] w0 fun e w' => e = .returned (.bool (p y)) ∧ Below w0.heap.size w0 w') :
  Calls Tryz.prog 136 #[x.val, .int .i64 most, .func (.func 137) #[] #[]] w fun e w' => e = .returned (.bool (mayL most p x.xs)) ∧ Below w.heap.size w w' := by
 obtain ⟨a, cap, xs⟩ := x
 have hml : xs.length ≤ maxLen := hx.1
 unfold maxLen at hml
 simp only [Sl.val]
 unfold mayL
 by_cases hlen : (xs.length : Int) ≤ most
 rotate_left
 ·rw [decide_eq_false hlen, Bool.false_and]
  have k0 : most < (xs.length : Int) := by omega
  clear hlen hp
  go_enter Tryz.func136, Tryz.ntmps136
  go_wp2
  go_ret
  exact ⟨rfl, Below.refl _ _⟩
 ·rw [decide_eq_true hlen, Bool.true_and]
  have k0 : ¬ most < (xs.length : Int) := by omega
  clear hlen
  obtain ⟨sb, hsb⟩ : ∃ sb, Hid (xs.all p = sb) := ⟨_, hide rfl⟩
  rw [hsb.out]
  go_enter Tryz.func136, Tryz.ntmps136
  go_wp2
  go_loopw [15] (fun iv wr' => ∃ k : Nat, k ≤ xs.length ∧ iv = .int .i64 (k : Int) ∧ Hid (∀ j (hj : j < xs.length), j < k → p xs[j] = true) ∧ Below w.heap.size w wr') (fun iv _ => xs.length - (intOf iv).toNat)
  case atStart => exact ⟨0, by omega, rfl, hide (fun j _ hj => absurd hj (by omega)), Below.refl _ _⟩
  case round =>
   clear k0
   obtain ⟨k, hk, rfl, HM, hB⟩ := hrel
   by_cases hlt : k < xs.length
   ·have k1 : (k : Int) < xs.length := by omega
    obtain ⟨b, off, rfl, hb, hre⟩ := RowsAt.elem (hx.below hB) k hlt
    have hre : wr.rangeAt b (off + k * 39) xs[k].cells := hre
    have okx : HdE.ok xs[k] := hx.2.1 _ (List.getElem_mem hlt)
    have hpk := fun w0 h0 => hp xs[k] (List.getElem_mem hlt) w0 h0
    have HT : Hid (p xs[k] = true → ∀ j (hj : j < xs.length), j < k + 1 → p xs[j] = true) := hide (fun h j hj hjk => by
     by_cases e : j = k
     ·subst e; exact h
     ·exact HM.out j hj (by omega))
    have HF : Hid (p xs[k] = false → sb = false) := hide (fun h => by
     rw [← hsb.out]
     rw [List.all_eq_false]
     exact ⟨xs[k], List.getElem_mem hlt, by rw [h]; simp⟩)
    obtain ⟨gx, hX⟩ : ∃ g, Hid (xs[k] = g) := ⟨_, hide rfl⟩
    rw [hX.out] at hre okx hpk HT HF
    clear hX HM
    have lu : gx.cells.length = 39 := HdE.len _ okx
    have ou : gx.cells.toArray.all (·.oneCell') = true := all_oneCell_toArray (HdE.one gx)
    generalize gx.cells = u at *
    generalize p gx = pb at *
    clear okx
    have iu : (Tryz.prog.info? 134).map (·.size) = some u.length := by rw [lu]; kernel_rfl
    have iA : (Tryz.prog.info? 134).map (·.size) = some u.toArray.size := by rw [List.size_toArray, lu]; kernel_rfl
    have zl : Hd.zero.cells.toArray.size = 39 := rfl
    obtain ⟨r5, hB5, hs5, _⟩ := fresh_store wr Hd.zero.cells.toArray 134 u (by rw [lu]; rfl)
    have hT5 : (wr.alloc (.cells Hd.zero.cells.toArray 134)).there wr.heap.size 0 u.toArray.size := by
     have := there_new wr Hd.zero.cells.toArray 134
     rw [zl] at this
     rw [show u.toArray.size = 39 by simpa using lu]
     exact this
    go_upto_region 6 with (first | (refine wpList_load_mid rfl 134 _ rfl _ _ rfl u _ hre Tryz.underlying134 rfl iu ?_) | (refine wpList_store_mid rfl 134 _ _ rfl _ _ u.toArray rfl rfl hT5 iA ou ?_))
    go_name_world w5 hw5
    rw [show (wr.alloc (.cells Hd.zero.cells.toArray 134)).setCells wr.heap.size 0 u = w5 from hw5] at r5 hB5 hs5
    have hB6 := hB.trans (hB5.mono hB.size)
    have c7 := hpk w5 hB6
    clear hw5 hs5 hT5 hre hpk hB5
    go_wp2_with (refine wpList_load_mid rfl 134 _ rfl _ _ rfl u _ r5 Tryz.underlying134 rfl iu ?_)
    refine c7.mono ?_
    rintro e8 w8 ⟨rfl, hb8⟩
    have hB8 := hB6.trans (hb8.mono hB6.size)
    clear c7 hb8 r5 hB6
    cases pb
    ·have HF' := hide (HF.out rfl)
     clear HF HT hsb
     go_wp2
     go_ret
     exact ⟨by rw [HF'.out]; rfl, hB8⟩
    ·have HT' := hide (HT.out rfl)
     clear HF HT
     go_wp2
     go_roundw
     case rel => exact ⟨k + 1, by omega, by go_num, HT', hB8⟩
     case measure => simp [intOf]; omega
   ·have k1 : ¬ (k : Int) < xs.length := by omega
    have HE : Hid (sb = true) := hide (by
     rw [← hsb.out]
     rw [List.all_eq_true]
     intro y hy
     obtain ⟨j, hj, rfl⟩ := List.mem_iff_getElem.1 hy
     exact HM.out j hj (by omega))
    clear HM hsb
    go_wp2
    go_ret
    exact ⟨by rw [HE.out]; rfl, hB⟩
def Sg.may (g : Sg) : Bool := inB g.n 64
def Ev.may (g : Ev) : Bool := inB g.n 64 && decide ((g.s.size : Int) ≤ 4194304)
def Rq.may (g : Rq) : Bool := inB g.c 8 && (inB g.n 1099511627776 && decide ((g.s.size : Int) ≤ 64))
theorem el_box {α : Type} (E : El α) (y : α) (t : TypeId) (w : World) : (w.alloc (.cells (E.f y).toArray t)).rangeAt w.heap.size 0 (E.f y) ∧ Below w.heap.size w (w.alloc (.cells (E.f y).toArray t)) :=
 ⟨by simpa using range_new w (E.f y).toArray t, (Below.refl _ _).alloc (Nat.le_refl _) _⟩
set_option maxRecDepth 100000 in
set_option maxHeartbeats 2000000 in
theorem sgMay_any (g : Sg) (w : World) : Calls Tryz.prog 139 #[.agg g.cells.toArray] w fun e w' => e = .returned (.bool g.may) ∧ Below w.heap.size w w' := by
 obtain ⟨hA, hB⟩ := el_box SgE g 110 w
 have c0 := hA 0 _ rfl
 simp only [Nat.add_zero] at c0
 change World.cell? (w.alloc (.cells g.cells.toArray 110)) _ = _ at c0
 change Below _ _ (w.alloc (.cells g.cells.toArray 110)) at hB
 unfold Sg.may
 generalize g.cells = q at *
 generalize g.n = n at *
 clear hA
 go_enter Tryz.func139, Tryz.ntmps139
 go_wp2_with (go_at_call 92; refine (within_any _ _ _).mono ?_; rintro e1 w1 ⟨rfl, hx⟩; obtain rfl := hx.symm; clear hx)
 go_ret
 exact ⟨rfl, hB⟩
set_option maxRecDepth 100000 in
set_option maxHeartbeats 2000000 in
theorem evMay_any (g : Ev) (w : World) : Calls Tryz.prog 98 #[.agg g.cells.toArray] w fun e w' => e = .returned (.bool g.may) ∧ Below w.heap.size w w' := by
 obtain ⟨hA, hB⟩ := el_box EvE g 108 w
 have c0 := hA 0 _ rfl
 have c1 := hA 1 _ rfl
 simp only [Nat.add_zero, Nat.zero_add] at c0 c1
 change World.cell? (w.alloc (.cells g.cells.toArray 108)) _ = _ at c0 c1
 change Below _ _ (w.alloc (.cells g.cells.toArray 108)) at hB
 unfold Ev.may
 generalize g.cells = q at *
 generalize g.n = n at *
 generalize g.s = s at *
 clear hA
 cases hn : inB n 64
 ·rw [Bool.false_and]
  go_enter Tryz.func98, Tryz.ntmps98
  go_wp2_with (go_at_call 92; refine (within_any _ _ _).mono ?_; rintro e1 w1 ⟨rfl, hx⟩; obtain rfl := hx.symm; clear hx; rw [hn])
  go_ret
  exact ⟨rfl, hB⟩
 ·rw [Bool.true_and]
  go_enter Tryz.func98, Tryz.ntmps98
  go_wp2_with (go_at_call 92; refine (within_any _ _ _).mono ?_; rintro e1 w1 ⟨rfl, hx⟩; obtain rfl := hx.symm; clear hx; rw [hn])
  go_ret
  exact ⟨rfl, hB⟩
set_option maxRecDepth 100000 in
set_option maxHeartbeats 2000000 in
theorem rqMay_any (g : Rq) (w : World) : Calls Tryz.prog 135 #[.agg g.cells.toArray] w fun e w' => e = .returned (.bool g.may) ∧ Below w.heap.size w w' := by
 obtain ⟨hA, hB⟩ := el_box RqE g 91 w
 have c0 := hA 0 _ rfl
 have c1 := hA 1 _ rfl
 have c2 := hA 2 _ rfl
 simp only [Nat.add_zero, Nat.zero_add] at c0 c1 c2
 change World.cell? (w.alloc (.cells g.cells.toArray 91)) _ = _ at c0 c1 c2
 change Below _ _ (w.alloc (.cells g.cells.toArray 91)) at hB
 unfold Rq.may
 generalize g.cells = q at *
 generalize g.c = c at *
 generalize g.n = n at *
 generalize g.s = s at *
 clear hA
 cases hc : inB c 8
 ·rw [Bool.false_and]
  go_enter Tryz.func135, Tryz.ntmps135
  go_wp2_with (go_at_call 92; refine (within_any _ _ _).mono ?_; rintro e1 w1 ⟨rfl, hx⟩; obtain rfl := hx.symm; clear hx; rw [hc])
  go_ret
  exact ⟨rfl, hB⟩
 ·rw [Bool.true_and]
  cases hn : inB n 1099511627776
  ·rw [Bool.false_and]
   go_enter Tryz.func135, Tryz.ntmps135
   go_wp2_with (go_at_call 92; refine (within_any _ _ _).mono ?_; rintro e1 w1 ⟨rfl, hx⟩; obtain rfl := hx.symm; clear hx; (first | rw [hc] | rw [hn]))
   go_ret
   exact ⟨rfl, hB⟩
  ·rw [Bool.true_and]
   go_enter Tryz.func135, Tryz.ntmps135
   go_wp2_with (go_at_call 92; refine (within_any _ _ _).mono ?_; rintro e1 w1 ⟨rfl, hx⟩; obtain rfl := hx.symm; clear hx; (first | rw [hc] | rw [hn]))
   go_ret
   exact ⟨rfl, hB⟩
def sgsMay (x : Sl Sg) : Bool := mayL 64 Sg.may x.xs
def batMay (q : Bool) (x : Sl Rq) : Bool := if q then decide (x.xs.length = 0) else mayL 4 Rq.may x.xs
set_option maxRecDepth 100000 in
set_option maxHeartbeats 2000000 in
theorem sgsMay_any (x : Sl Sg) (w : World) (hx : x.At SgE w) : Calls Tryz.prog 99 #[x.val] w fun e w' => e = .returned (.bool (sgsMay x)) ∧ Below w.heap.size w w' := by
 have ca := allS_any x 64 Sg.may w hx (fun y _ w0 _ => sgMay_any y w0)
 unfold sgsMay
 generalize mayL 64 Sg.may x.xs = b at *
 obtain ⟨a, cap, xs⟩ := x
 simp only [Sl.val] at ca ⊢
 clear hx
 go_enter Tryz.func99, Tryz.ntmps99
 go_wp2_with fail
 refine ca.mono ?_
 rintro e1 w1 ⟨rfl, hb⟩
 clear ca
 go_wp2
 go_ret
 exact ⟨rfl, hb⟩
set_option maxRecDepth 100000 in
set_option maxHeartbeats 2000000 in
theorem batMay_any (q : Bool) (x : Sl Rq) (w : World) (hx : x.At RqE w) : Calls Tryz.prog 95 #[.agg #[.bool q, x.val]] w fun e w' => e = .returned (.bool (batMay q x)) ∧ Below w.heap.size w w' := by
 have hB : Below w.heap.size w (w.alloc (.cells #[.bool q, x.val] 24)) := (Below.refl _ w).alloc (Nat.le_refl _) _
 have ca := allQ_any x 4 Rq.may _ (hx.below hB) (fun y _ w0 _ => rqMay_any y w0)
 have hml : x.xs.length ≤ maxLen := hx.1
 unfold maxLen at hml
 unfold batMay
 generalize mayL 4 Rq.may x.xs = b at *
 obtain ⟨a, cap, xs⟩ := x
 simp only [Sl.val] at ca hB hml ⊢
 clear hx
 cases q
 ·rw [if_neg (by simp)]
  go_enter Tryz.func95, Tryz.ntmps95
  go_wp2_with fail
  refine ca.mono ?_
  rintro e1 w1 ⟨rfl, hb⟩
  have hB1 := hB.trans (hb.mono hB.size)
  clear ca hb
  go_wp2
  go_ret
  exact ⟨rfl, hB1⟩
 ·rw [if_pos rfl]
  clear ca
  by_cases h0 : xs.length = 0
  ·rw [decide_eq_true h0]
   have e0 : ((xs.length : Int) == 0) = true := by rw [h0]; rfl
   clear h0
   go_enter Tryz.func95, Tryz.ntmps95
   go_wp2
   go_ret
   exact ⟨by simp_all, hB⟩
  ·rw [decide_eq_false h0]
   have e0 : ((xs.length : Int) == 0) = false := beq_eq_false_iff_ne.2 (by omega)
   clear h0
   go_enter Tryz.func95, Tryz.ntmps95
   go_wp2
   go_ret
   exact ⟨by simp_all, hB⟩
def certMay (x : Vt) (s : Sl Sg) : Bool := x.may && sgsMay s
def Hd.may (h : Hd) : Bool := batMay h.q h.rs && certMay h.vt h.sg
def chgMay (a b c : Int) (x : Sl Hd) : Bool := (inB a 1048576 && (inB b 64 && inB c 1099511627776)) && mayL 4 Hd.may x.xs
set_option maxRecDepth 100000 in
set_option maxHeartbeats 2000000 in
theorem certMay_any (x : Vt) (s : Sl Sg) (w : World) (hx : x.ok) (hs : s.At SgE w) : Calls Tryz.prog 94 #[.agg (certL x s).toArray] w fun e w' => e = .returned (.bool (certMay x s)) ∧ Below w.heap.size w w' := by
 have hA : (w.alloc (.cells (certL x s).toArray 31)).rangeAt w.heap.size 0 (certL x s) := by simpa using range_new w (certL x s).toArray 31
 have hB : Below w.heap.size w (w.alloc (.cells (certL x s).toArray 31)) := (Below.refl _ _).alloc (Nat.le_refl _) _
 have hz : w.heap.size < (w.alloc (.cells (certL x s).toArray 31)).heap.size := by simp
 have r1 := range_left hA
 have c1 := range_right hA 0 _ rfl
 rw [hx.len] at c1
 simp only [Nat.zero_add, Nat.add_zero] at c1
 have ix : (Tryz.prog.info? 28).map (·.size) = some x.cells.length := by rw [hx.len]; exact iszV
 have cv := fun w0 => voteMay_any x w0
 have cs := fun (w0 : World) (h0 : s.At SgE w0) => sgsMay_any s w0 h0
 have s1 := hs.below hB
 unfold certMay
 obtain ⟨W, hW⟩ : ∃ W, Hid (w.alloc (.cells (certL x s).toArray 31) = W) := ⟨_, hide rfl⟩
 rw [hW.out] at r1 c1 hB hz s1
 generalize certL x s = q at *
 generalize x.cells = u at *
 generalize x.may = b1 at *
 generalize sgsMay s = b2 at *
 have S2 := fun (w0 : World) (h0 : Below W.heap.size W w0) => cs w0 (s1.below h0)
 obtain ⟨a, cap, xs⟩ := s
 simp only [Sl.val] at c1 S2
 clear hA hx hs cs s1
 cases b1
 ·go_enter Tryz.func94, Tryz.ntmps94
  go_upto_region 1 with fail
  go_name_world w1 hw1
  obtain rfl : W = w1 := hW.out.symm.trans hw1
  clear hw1 hW S2
  go_wp2_with (refine wpList_load_mid rfl 28 _ rfl _ _ rfl u _ r1 Tryz.underlying28 rfl ix ?_)
  refine (cv _).mono ?_
  rintro e2 w2 ⟨rfl, hb2⟩
  have hB2 := hB.trans (hb2.mono (by omega))
  clear cv r1 c1 hb2
  go_wp2
  go_ret
  exact ⟨rfl, hB2⟩
 ·rw [Bool.true_and]
  go_enter Tryz.func94, Tryz.ntmps94
  go_upto_region 1 with fail
  go_name_world w1 hw1
  obtain rfl : W = w1 := hW.out.symm.trans hw1
  clear hw1 hW
  go_wp2_with (refine wpList_load_mid rfl 28 _ rfl _ _ rfl u _ r1 Tryz.underlying28 rfl ix ?_)
  refine (cv _).mono ?_
  rintro e2 w2 ⟨rfl, hb2⟩
  have hB2 := hB.trans (hb2.mono (by omega))
  have c2 := (hb2.cell (p := ⟨w.heap.size, 36, none⟩) hz).trans c1
  have C2 := S2 w2 hb2
  clear cv r1 c1 hb2 S2
  go_wp2_with fail
  refine C2.mono ?_
  rintro e3 w3 ⟨rfl, hb3⟩
  have hB3 := hB2.trans (hb3.mono hB2.size)
  clear C2 hb3
  go_wp2
  go_ret
  exact ⟨rfl, hB3⟩
set_option maxRecDepth 100000 in
set_option maxHeartbeats 2000000 in
theorem hdMay_any (h : Hd) (w : World) (kh : h.vt.ok) (ah : h.At w) : Calls Tryz.prog 137 #[.agg h.cells.toArray] w fun e w' => e = .returned (.bool h.may) ∧ Below w.heap.size w w' := by
 have hA : (w.alloc (.cells h.cells.toArray 134)).rangeAt w.heap.size 0 h.cells := by simpa using range_new w h.cells.toArray 134
 have hB : Below w.heap.size w (w.alloc (.cells h.cells.toArray 134)) := (Below.refl _ _).alloc (Nat.le_refl _) _
 have hz : w.heap.size < (w.alloc (.cells h.cells.toArray 134)).heap.size := by simp
 have c0 := hA 0 _ rfl
 have c1 := hA 1 _ rfl
 simp only [Nat.zero_add, Nat.add_zero] at c0 c1
 have rc : World.rangeAt _ w.heap.size 2 (certL h.vt h.sg) := range_right (cs := [.bool h.q, h.rs.val]) hA
 have ic : (Tryz.prog.info? 31).map (·.size) = some (certL h.vt h.sg).length := by rw [show (certL h.vt h.sg).length = 37 by simp [certL, kh.len]]; exact iszC
 have h1 := ah.below hB
 have cb := fun (w0 : World) k1 => batMay_any h.q h.rs w0 k1
 have cc := fun (w0 : World) k1 => certMay_any h.vt h.sg w0 kh k1
 unfold Hd.may
 obtain ⟨W, hW⟩ : ∃ W, Hid (w.alloc (.cells h.cells.toArray 134) = W) := ⟨_, hide rfl⟩
 rw [hW.out] at c0 c1 rc hB hz h1
 generalize h.cells = q at *
 generalize certL h.vt h.sg = u at *
 generalize batMay h.q h.rs = b1 at *
 generalize certMay h.vt h.sg = b2 at *
 have B1 := cb W h1.1
 have C2 := fun (w0 : World) (h0 : Below W.heap.size W w0) => cc w0 (h1.2.below h0)
 obtain ⟨_, ⟨a, cap, rs⟩, _, sg⟩ := h
 simp only [Sl.val] at c1 B1
 clear hA kh ah cb cc h1
 cases b1
 ·go_enter Tryz.func137, Tryz.ntmps137
  go_upto_region 1 with fail
  go_name_world w1 hw1
  obtain rfl : W = w1 := hW.out.symm.trans hw1
  clear hw1 hW C2
  go_wp2_with fail
  refine B1.mono ?_
  rintro e2 w2 ⟨rfl, hb2⟩
  have hB2 := hB.trans (hb2.mono (by omega))
  clear B1 c0 c1 rc hb2
  go_wp2
  go_ret
  exact ⟨rfl, hB2⟩
 ·rw [Bool.true_and]
  go_enter Tryz.func137, Tryz.ntmps137
  go_upto_region 1 with fail
  go_name_world w1 hw1
  obtain rfl : W = w1 := hW.out.symm.trans hw1
  clear hw1 hW
  go_wp2_with fail
  refine B1.mono ?_
  rintro e2 w2 ⟨rfl, hb2⟩
  have hB2 := hB.trans (hb2.mono (by omega))
  have rc2 := range_below rc hb2 hz
  have D2 := C2 w2 hb2
  clear B1 c0 c1 rc hb2 C2
  go_wp2_with (refine wpList_load_g (by rfl) 31 _ rfl _ _ rfl u _ rc2 Tryz.underlying31 rfl ic ?_)
  refine D2.mono ?_
  rintro e3 w3 ⟨rfl, hb3⟩
  have hB3 := hB2.trans (hb3.mono hB2.size)
  clear D2 rc2 hb3
  go_wp2
  go_ret
  exact ⟨rfl, hB3⟩
set_option maxRecDepth 100000 in
set_option maxHeartbeats 4000000 in
theorem chgMay_any (a b c : Int) (x : Sl Hd) (w : World) (hx : HdsAt w x) : Calls Tryz.prog 96 #[.agg (chgL a b c x)] w fun e w' => e = .returned (.bool (chgMay a b c x)) ∧ Below w.heap.size w w' := by
 have hB : Below w.heap.size w (w.alloc (.cells (chgL a b c x) 60)) := (Below.refl _ w).alloc (Nat.le_refl _) _
 have ca := allH_any x 4 Hd.may _ (hx.1.below hB) (fun y hy w0 h0 => hdMay_any y w0 (hx.1.2.1 y hy) ((hx.2 y hy).below (hB.trans (h0.mono hB.size))))
 unfold chgMay
 unfold chgL at hB ca ⊢
 generalize mayL 4 Hd.may x.xs = sb at *
 obtain ⟨xa, xc, xs⟩ := x
 simp only [Sl.val] at hB ca ⊢
 clear hx
 cases h1 : inB a 1048576
 ·rw [Bool.false_and, Bool.false_and]
  clear ca
  go_enter Tryz.func96, Tryz.ntmps96
  go_wp2_with (go_at_call 92; refine (within_any _ _ _).mono ?_; rintro e1 w1 ⟨rfl, hx⟩; obtain rfl := hx.symm; clear hx; rw [h1])
  go_ret
  exact ⟨rfl, hB⟩
 ·rw [Bool.true_and]
  cases h2 : inB b 64
  ·rw [Bool.false_and, Bool.false_and]
   clear ca
   go_enter Tryz.func96, Tryz.ntmps96
   go_wp2_with (go_at_call 92; refine (within_any _ _ _).mono ?_; rintro e1 w1 ⟨rfl, hx⟩; obtain rfl := hx.symm; clear hx; (first | rw [h1] | rw [h2]))
   go_ret
   exact ⟨rfl, hB⟩
  ·rw [Bool.true_and]
   cases h3 : inB c 1099511627776
   ·rw [Bool.false_and]
    clear ca
    go_enter Tryz.func96, Tryz.ntmps96
    go_wp2_with (go_at_call 92; refine (within_any _ _ _).mono ?_; rintro e1 w1 ⟨rfl, hx⟩; obtain rfl := hx.symm; clear hx; (first | rw [h1] | rw [h2] | rw [h3]))
    go_ret
    exact ⟨rfl, hB⟩
   ·rw [Bool.true_and]
    go_enter Tryz.func96, Tryz.ntmps96
    go_wp2_with (go_at_call 92; refine (within_any _ _ _).mono ?_; rintro e1 w1 ⟨rfl, hx⟩; obtain rfl := hx.symm; clear hx; (first | rw [h1] | rw [h2] | rw [h3]))
    refine ca.mono ?_
    rintro e2 w2 ⟨rfl, hb2⟩
    have hB2 := hB.trans (hb2.mono hB.size)
    clear ca hb2
    go_wp2
    go_ret
    exact ⟨rfl, hB2⟩
def Mg.mayL (m : Mg) : Bool := batMay m.q m.rs && (chgMay m.ce m.cl m.cv m.he && (Go.Proofs.YtinndbipomlokaaGreat.mayL 64 Ev.may m.ne.xs && (decide ((m.st.size : Int) ≤ 4194304) && sgsMay m.sg)))
def Mg.may (m : Mg) : Bool := (inB m.e 1048576 && inB m.l 64) && ((inB m.v 1099511627776 && inB m.s 1099511627776) && ((if m.k = 2 then m.vt.may else true) && ((if m.k = 7 then certMay m.ct m.cs else true) && m.mayL)))
set_option maxRecDepth 100000 in
set_option maxHeartbeats 8000000 in
theorem fieldsMay_any (m : Mg) (w : World) (om : m.ok) (am : m.At w) : Calls Tryz.prog 55 #[.agg m.ms.cells.toArray] w fun er w' => er = .returned (.bool m.may) ∧ Below w.heap.size w w' := by
 have hA : (w.alloc (.cells m.ms.cells.toArray 63)).rangeAt w.heap.size 0 m.ms.cells := by simpa using range_new w m.ms.cells.toArray 63
 have hB : Below w.heap.size w (w.alloc (.cells m.ms.cells.toArray 63)) := (Below.refl _ _).alloc (Nat.le_refl _) _
 have hs : w.heap.size < (w.alloc (.cells m.ms.cells.toArray 63)).heap.size := by simp
 have a1 := am.below hB
 obtain ⟨W, hW⟩ : ∃ W, Hid (w.alloc (.cells m.ms.cells.toArray 63) = W) := ⟨_, hide rfl⟩
 rw [hW.out] at hA hB hs a1
 have M := om.ms.at hA
 have ix : (Tryz.prog.info? 28).map (·.size) = some m.vt.cells.length := by rw [om.vt.len]; exact iszV
 have ic : (Tryz.prog.info? 31).map (·.size) = some (certL m.ct m.cs).length := by rw [show (certL m.ct m.cs).length = 37 by simp [certL, om.ct.len]]; exact iszC
 have cK : W.cell? ⟨w.heap.size, 0, none⟩ = some (.int .i64 m.k) := M.k
 have cE : W.cell? ⟨w.heap.size, 1, none⟩ = some (.int .i64 m.e) := M.e
 have cL : W.cell? ⟨w.heap.size, 2, none⟩ = some (.int .i64 m.l) := M.l
 have cV : W.cell? ⟨w.heap.size, 3, none⟩ = some (.int .i64 m.v) := M.v
 have cS : W.cell? ⟨w.heap.size, 4, none⟩ = some (.int .i64 m.s) := M.s
 have cQ : W.cell? ⟨w.heap.size, 5, none⟩ = some (.bool m.q) := M.q
 have cR : W.cell? ⟨w.heap.size, 6, none⟩ = some (.slice m.rs.a m.rs.xs.length m.rs.cap) := M.rs
 have c1 : W.cell? ⟨w.heap.size, 43, none⟩ = some (.int .i64 m.ce) := M.ce
 have c2 : W.cell? ⟨w.heap.size, 44, none⟩ = some (.int .i64 m.cl) := M.cl
 have c3 : W.cell? ⟨w.heap.size, 45, none⟩ = some (.int .i64 m.cv) := M.cv
 have cH : W.cell? ⟨w.heap.size, 46, none⟩ = some (.slice m.he.a m.he.xs.length m.he.cap) := M.he
 have cN : W.cell? ⟨w.heap.size, 47, none⟩ = some (.slice m.ne.a m.ne.xs.length m.ne.cap) := M.ne
 have cT : W.cell? ⟨w.heap.size, 117, none⟩ = some (.string m.st) := M.st
 have cG : W.cell? ⟨w.heap.size, 118, none⟩ = some (.slice m.sg.a m.sg.xs.length m.sg.cap) := M.sg
 have rV : W.rangeAt (w.heap.size) 7 m.vt.cells := M.vt
 have rC : W.rangeAt (w.heap.size) 80 (certL m.ct m.cs) := M.ct
 have gE := fun w0 => within_any m.e 1048576 w0
 have gL := fun w0 => within_any m.l 64 w0
 have gV := fun w0 => within_any m.v 1099511627776 w0
 have gS := fun w0 => within_any m.s 1099511627776 w0
 have gX := fun w0 => voteMay_any m.vt w0
 have gT := fun (w0 : World) (h0 : Below W.heap.size W w0) => certMay_any m.ct m.cs w0 om.ct (a1.cs.below h0)
 have gB := fun (w0 : World) (h0 : Below W.heap.size W w0) => batMay_any m.q m.rs w0 (a1.rs.below h0)
 have gC := fun (w0 : World) (h0 : Below W.heap.size W w0) => chgMay_any m.ce m.cl m.cv m.he w0 (a1.he.below h0)
 have gN := fun (w0 : World) (h0 : Below W.heap.size W w0) => allE_any m.ne 64 Ev.may w0 (a1.ne.below h0) (fun y _ w1 _ => evMay_any y w1)
 have gG := fun (w0 : World) (h0 : Below W.heap.size W w0) => sgsMay_any m.sg w0 (a1.sg.below h0)
 unfold chgL at gC
 simp only [Sl.val] at gB gC gN gG
 unfold Mg.may Mg.mayL
 clear hA M om am a1
 generalize inB m.e 1048576 = be at *
 generalize inB m.l 64 = bl at *
 generalize inB m.v 1099511627776 = bv at *
 generalize inB m.s 1099511627776 = bs at *
 generalize m.vt.may = bx at *
 generalize certMay m.ct m.cs = bt at *
 generalize batMay m.q m.rs = b1 at *
 generalize chgMay m.ce m.cl m.cv m.he = b2 at *
 generalize Go.Proofs.YtinndbipomlokaaGreat.mayL 64 Ev.may m.ne.xs = b3 at *
 generalize sgsMay m.sg = b5 at *
 generalize m.ms.cells = q at *
 generalize m.vt.cells = u at *
 generalize certL m.ct m.cs = uc at *
 obtain ⟨k, e, l, v, s, qq, ⟨ra, rc, rx⟩, vt, ce, cl, cv, ⟨ha, hc, hx⟩, ⟨na, nc, nx⟩, d, ct, cs, st, ⟨ga, gc, gx⟩⟩ := m
 simp only at *
 by_cases hst : (st.size : Int) ≤ 4194304
 rotate_left
 ·rw [decide_eq_false hst]
  have hst' : (4194304 : Int) < st.size := by omega
  have hst2 : decide ((st.size : Int) ≤ 4194304) = false := decide_eq_false hst
  by_cases h2 : k = 2
  ·rw [if_pos h2, if_neg (by omega)]
   subst h2
   go_enter Tryz.func55, Tryz.ntmps55
   go_upto_region 1 with fail
   go_name_world w1 hw1
   obtain rfl : W = w1 := hW.out.symm.trans hw1
   clear hw1 hW
   have HB := hB
   have HW : Below W.heap.size W W := Below.refl _ _
   go_wp2_with fail
   refine (gE _).mono ?_
   rintro e1 w1 ⟨rfl, hx0⟩
   obtain rfl := hx0.symm
   clear hx0
   clear gE
   cases be
   ·go_wp2
    go_ret
    exact ⟨by simp, HB⟩
   ·go_wp2_with fail
    refine (gL _).mono ?_
    rintro e1 w1 ⟨rfl, hx0⟩
    obtain rfl := hx0.symm
    clear hx0
    clear gL
    cases bl
    ·go_wp2
     go_ret
     exact ⟨by simp, HB⟩
    ·go_wp2_with fail
     refine (gV _).mono ?_
     rintro e1 w1 ⟨rfl, hx0⟩
     obtain rfl := hx0.symm
     clear hx0
     clear gV
     cases bv
     ·go_wp2
      go_ret
      exact ⟨by simp, HB⟩
     ·go_wp2_with fail
      refine (gS _).mono ?_
      rintro e1 w1 ⟨rfl, hx0⟩
      obtain rfl := hx0.symm
      clear hx0
      clear gS
      cases bs
      ·go_wp2
       go_ret
       exact ⟨by simp, HB⟩
      ·go_wp2_with (refine wpList_load_g (by rfl) 28 _ rfl _ _ rfl u _ rV Tryz.underlying28 rfl ix ?_)
       refine (gX _).mono ?_
       rintro e5 w5 ⟨rfl, hb5⟩
       have up := fun i v (h : W.cell? ⟨w.heap.size, i, none⟩ = some v) => (hb5.cell (p := ⟨w.heap.size, i, none⟩) hs).trans h
       replace cK := up _ _ cK
       replace cQ := up _ _ cQ
       replace cR := up _ _ cR
       replace c1 := up _ _ c1
       replace c2 := up _ _ c2
       replace c3 := up _ _ c3
       replace cH := up _ _ cH
       replace cN := up _ _ cN
       replace cT := up _ _ cT
       replace cG := up _ _ cG
       clear up
       replace HB := HB.trans (hb5.mono (by omega))
       replace HW := HW.trans (hb5.mono HW.size)
       replace hs := Nat.lt_of_lt_of_le hs hb5.size
       clear hb5 gX
       cases bx
       ·go_wp2
        go_ret
        exact ⟨by simp, HB⟩
       ·go_wp2_with fail
        refine (gB _ HW).mono ?_
        rintro e6 w6 ⟨rfl, hb6⟩
        have up := fun i v (h : w5.cell? ⟨w.heap.size, i, none⟩ = some v) => (hb6.cell (p := ⟨w.heap.size, i, none⟩) hs).trans h
        replace c1 := up _ _ c1
        replace c2 := up _ _ c2
        replace c3 := up _ _ c3
        replace cH := up _ _ cH
        replace cN := up _ _ cN
        replace cT := up _ _ cT
        replace cG := up _ _ cG
        clear up
        replace HB := HB.trans (hb6.mono (by omega))
        replace HW := HW.trans (hb6.mono HW.size)
        replace hs := Nat.lt_of_lt_of_le hs hb6.size
        clear hb6 gB
        cases b1
        ·go_wp2
         go_ret
         exact ⟨by simp, HB⟩
        ·go_wp2_with fail
         refine (gC _ HW).mono ?_
         rintro e7 w7 ⟨rfl, hb7⟩
         have up := fun i v (h : w6.cell? ⟨w.heap.size, i, none⟩ = some v) => (hb7.cell (p := ⟨w.heap.size, i, none⟩) hs).trans h
         replace cN := up _ _ cN
         replace cT := up _ _ cT
         replace cG := up _ _ cG
         clear up
         replace HB := HB.trans (hb7.mono (by omega))
         replace HW := HW.trans (hb7.mono HW.size)
         replace hs := Nat.lt_of_lt_of_le hs hb7.size
         clear hb7 gC
         cases b2
         ·go_wp2
          go_ret
          exact ⟨by simp, HB⟩
         ·go_wp2_with fail
          refine (gN _ HW).mono ?_
          rintro e8 w8 ⟨rfl, hb8⟩
          have up := fun i v (h : w7.cell? ⟨w.heap.size, i, none⟩ = some v) => (hb8.cell (p := ⟨w.heap.size, i, none⟩) hs).trans h
          replace cT := up _ _ cT
          replace cG := up _ _ cG
          clear up
          replace HB := HB.trans (hb8.mono (by omega))
          replace HW := HW.trans (hb8.mono HW.size)
          replace hs := Nat.lt_of_lt_of_le hs hb8.size
          clear hb8 gN
          cases b3
          ·go_wp2
           go_ret
           exact ⟨by simp, HB⟩
          ·clear gG
           go_wp2
           go_ret
           exact ⟨by simp, HB⟩
  ·by_cases h7 : k = 7
   ·rw [if_neg h2, if_pos h7]
    subst h7
    clear h2
    go_enter Tryz.func55, Tryz.ntmps55
    go_upto_region 1 with fail
    go_name_world w1 hw1
    obtain rfl : W = w1 := hW.out.symm.trans hw1
    clear hw1 hW
    have HB := hB
    have HW : Below W.heap.size W W := Below.refl _ _
    go_wp2_with fail
    refine (gE _).mono ?_
    rintro e1 w1 ⟨rfl, hx0⟩
    obtain rfl := hx0.symm
    clear hx0
    clear gE
    cases be
    ·go_wp2
     go_ret
     exact ⟨by simp, HB⟩
    ·go_wp2_with fail
     refine (gL _).mono ?_
     rintro e1 w1 ⟨rfl, hx0⟩
     obtain rfl := hx0.symm
     clear hx0
     clear gL
     cases bl
     ·go_wp2
      go_ret
      exact ⟨by simp, HB⟩
     ·go_wp2_with fail
      refine (gV _).mono ?_
      rintro e1 w1 ⟨rfl, hx0⟩
      obtain rfl := hx0.symm
      clear hx0
      clear gV
      cases bv
      ·go_wp2
       go_ret
       exact ⟨by simp, HB⟩
      ·go_wp2_with fail
       refine (gS _).mono ?_
       rintro e1 w1 ⟨rfl, hx0⟩
       obtain rfl := hx0.symm
       clear hx0
       clear gS
       cases bs
       ·go_wp2
        go_ret
        exact ⟨by simp, HB⟩
       ·go_wp2_with (refine wpList_load_g (by rfl) 31 _ rfl _ _ rfl uc _ rC Tryz.underlying31 rfl ic ?_)
        refine (gT _ HW).mono ?_
        rintro e5 w5 ⟨rfl, hb5⟩
        have up := fun i v (h : W.cell? ⟨w.heap.size, i, none⟩ = some v) => (hb5.cell (p := ⟨w.heap.size, i, none⟩) hs).trans h
        replace cQ := up _ _ cQ
        replace cR := up _ _ cR
        replace c1 := up _ _ c1
        replace c2 := up _ _ c2
        replace c3 := up _ _ c3
        replace cH := up _ _ cH
        replace cN := up _ _ cN
        replace cT := up _ _ cT
        replace cG := up _ _ cG
        clear up
        replace HB := HB.trans (hb5.mono (by omega))
        replace HW := HW.trans (hb5.mono HW.size)
        replace hs := Nat.lt_of_lt_of_le hs hb5.size
        clear hb5 gT
        cases bt
        ·go_wp2
         go_ret
         exact ⟨by simp, HB⟩
        ·go_wp2_with fail
         refine (gB _ HW).mono ?_
         rintro e6 w6 ⟨rfl, hb6⟩
         have up := fun i v (h : w5.cell? ⟨w.heap.size, i, none⟩ = some v) => (hb6.cell (p := ⟨w.heap.size, i, none⟩) hs).trans h
         replace c1 := up _ _ c1
         replace c2 := up _ _ c2
         replace c3 := up _ _ c3
         replace cH := up _ _ cH
         replace cN := up _ _ cN
         replace cT := up _ _ cT
         replace cG := up _ _ cG
         clear up
         replace HB := HB.trans (hb6.mono (by omega))
         replace HW := HW.trans (hb6.mono HW.size)
         replace hs := Nat.lt_of_lt_of_le hs hb6.size
         clear hb6 gB
         cases b1
         ·go_wp2
          go_ret
          exact ⟨by simp, HB⟩
         ·go_wp2_with fail
          refine (gC _ HW).mono ?_
          rintro e7 w7 ⟨rfl, hb7⟩
          have up := fun i v (h : w6.cell? ⟨w.heap.size, i, none⟩ = some v) => (hb7.cell (p := ⟨w.heap.size, i, none⟩) hs).trans h
          replace cN := up _ _ cN
          replace cT := up _ _ cT
          replace cG := up _ _ cG
          clear up
          replace HB := HB.trans (hb7.mono (by omega))
          replace HW := HW.trans (hb7.mono HW.size)
          replace hs := Nat.lt_of_lt_of_le hs hb7.size
          clear hb7 gC
          cases b2
          ·go_wp2
           go_ret
           exact ⟨by simp, HB⟩
          ·go_wp2_with fail
           refine (gN _ HW).mono ?_
           rintro e8 w8 ⟨rfl, hb8⟩
           have up := fun i v (h : w7.cell? ⟨w.heap.size, i, none⟩ = some v) => (hb8.cell (p := ⟨w.heap.size, i, none⟩) hs).trans h
           replace cT := up _ _ cT
           replace cG := up _ _ cG
           clear up
           replace HB := HB.trans (hb8.mono (by omega))
           replace HW := HW.trans (hb8.mono HW.size)
           replace hs := Nat.lt_of_lt_of_le hs hb8.size
           clear hb8 gN
           cases b3
           ·go_wp2
            go_ret
            exact ⟨by simp, HB⟩
           ·clear gG
            go_wp2
            go_ret
            exact ⟨by simp, HB⟩
   ·rw [if_neg h2, if_neg h7]
    have n2 : (k == 2) = false := beq_eq_false_iff_ne.2 h2
    have n7 : (k == 7) = false := beq_eq_false_iff_ne.2 h7
    clear h2 h7
    go_enter Tryz.func55, Tryz.ntmps55
    go_upto_region 1 with fail
    go_name_world w1 hw1
    obtain rfl : W = w1 := hW.out.symm.trans hw1
    clear hw1 hW
    have HB := hB
    have HW : Below W.heap.size W W := Below.refl _ _
    go_wp2_with fail
    refine (gE _).mono ?_
    rintro e1 w1 ⟨rfl, hx0⟩
    obtain rfl := hx0.symm
    clear hx0
    clear gE
    cases be
    ·go_wp2
     go_ret
     exact ⟨by simp, HB⟩
    ·go_wp2_with fail
     refine (gL _).mono ?_
     rintro e1 w1 ⟨rfl, hx0⟩
     obtain rfl := hx0.symm
     clear hx0
     clear gL
     cases bl
     ·go_wp2
      go_ret
      exact ⟨by simp, HB⟩
     ·go_wp2_with fail
      refine (gV _).mono ?_
      rintro e1 w1 ⟨rfl, hx0⟩
      obtain rfl := hx0.symm
      clear hx0
      clear gV
      cases bv
      ·go_wp2
       go_ret
       exact ⟨by simp, HB⟩
      ·go_wp2_with fail
       refine (gS _).mono ?_
       rintro e1 w1 ⟨rfl, hx0⟩
       obtain rfl := hx0.symm
       clear hx0
       clear gS
       cases bs
       ·go_wp2
        go_ret
        exact ⟨by simp, HB⟩
       ·go_wp2_with fail
        refine (gB _ HW).mono ?_
        rintro e6 w6 ⟨rfl, hb6⟩
        have up := fun i v (h : W.cell? ⟨w.heap.size, i, none⟩ = some v) => (hb6.cell (p := ⟨w.heap.size, i, none⟩) hs).trans h
        replace c1 := up _ _ c1
        replace c2 := up _ _ c2
        replace c3 := up _ _ c3
        replace cH := up _ _ cH
        replace cN := up _ _ cN
        replace cT := up _ _ cT
        replace cG := up _ _ cG
        clear up
        replace HB := HB.trans (hb6.mono (by omega))
        replace HW := HW.trans (hb6.mono HW.size)
        replace hs := Nat.lt_of_lt_of_le hs hb6.size
        clear hb6 gB
        cases b1
        ·go_wp2
         go_ret
         exact ⟨by simp, HB⟩
        ·go_wp2_with fail
         refine (gC _ HW).mono ?_
         rintro e7 w7 ⟨rfl, hb7⟩
         have up := fun i v (h : w6.cell? ⟨w.heap.size, i, none⟩ = some v) => (hb7.cell (p := ⟨w.heap.size, i, none⟩) hs).trans h
         replace cN := up _ _ cN
         replace cT := up _ _ cT
         replace cG := up _ _ cG
         clear up
         replace HB := HB.trans (hb7.mono (by omega))
         replace HW := HW.trans (hb7.mono HW.size)
         replace hs := Nat.lt_of_lt_of_le hs hb7.size
         clear hb7 gC
         cases b2
         ·go_wp2
          go_ret
          exact ⟨by simp, HB⟩
         ·go_wp2_with fail
          refine (gN _ HW).mono ?_
          rintro e8 w8 ⟨rfl, hb8⟩
          have up := fun i v (h : w7.cell? ⟨w.heap.size, i, none⟩ = some v) => (hb8.cell (p := ⟨w.heap.size, i, none⟩) hs).trans h
          replace cT := up _ _ cT
          replace cG := up _ _ cG
          clear up
          replace HB := HB.trans (hb8.mono (by omega))
          replace HW := HW.trans (hb8.mono HW.size)
          replace hs := Nat.lt_of_lt_of_le hs hb8.size
          clear hb8 gN
          cases b3
          ·go_wp2
           go_ret
           exact ⟨by simp, HB⟩
          ·clear gG
           go_wp2
           go_ret
           exact ⟨by simp, HB⟩
 ·rw [decide_eq_true hst]
  by_cases h2 : k = 2
  ·rw [if_pos h2, if_neg (by omega)]
   subst h2
   go_enter Tryz.func55, Tryz.ntmps55
   go_upto_region 1 with fail
   go_name_world w1 hw1
   obtain rfl : W = w1 := hW.out.symm.trans hw1
   clear hw1 hW
   have HB := hB
   have HW : Below W.heap.size W W := Below.refl _ _
   go_wp2_with fail
   refine (gE _).mono ?_
   rintro e1 w1 ⟨rfl, hx0⟩
   obtain rfl := hx0.symm
   clear hx0
   clear gE
   cases be
   ·go_wp2
    go_ret
    exact ⟨by simp, HB⟩
   ·go_wp2_with fail
    refine (gL _).mono ?_
    rintro e1 w1 ⟨rfl, hx0⟩
    obtain rfl := hx0.symm
    clear hx0
    clear gL
    cases bl
    ·go_wp2
     go_ret
     exact ⟨by simp, HB⟩
    ·go_wp2_with fail
     refine (gV _).mono ?_
     rintro e1 w1 ⟨rfl, hx0⟩
     obtain rfl := hx0.symm
     clear hx0
     clear gV
     cases bv
     ·go_wp2
      go_ret
      exact ⟨by simp, HB⟩
     ·go_wp2_with fail
      refine (gS _).mono ?_
      rintro e1 w1 ⟨rfl, hx0⟩
      obtain rfl := hx0.symm
      clear hx0
      clear gS
      cases bs
      ·go_wp2
       go_ret
       exact ⟨by simp, HB⟩
      ·go_wp2_with (refine wpList_load_g (by rfl) 28 _ rfl _ _ rfl u _ rV Tryz.underlying28 rfl ix ?_)
       refine (gX _).mono ?_
       rintro e5 w5 ⟨rfl, hb5⟩
       have up := fun i v (h : W.cell? ⟨w.heap.size, i, none⟩ = some v) => (hb5.cell (p := ⟨w.heap.size, i, none⟩) hs).trans h
       replace cK := up _ _ cK
       replace cQ := up _ _ cQ
       replace cR := up _ _ cR
       replace c1 := up _ _ c1
       replace c2 := up _ _ c2
       replace c3 := up _ _ c3
       replace cH := up _ _ cH
       replace cN := up _ _ cN
       replace cT := up _ _ cT
       replace cG := up _ _ cG
       clear up
       replace HB := HB.trans (hb5.mono (by omega))
       replace HW := HW.trans (hb5.mono HW.size)
       replace hs := Nat.lt_of_lt_of_le hs hb5.size
       clear hb5 gX
       cases bx
       ·go_wp2
        go_ret
        exact ⟨by simp, HB⟩
       ·go_wp2_with fail
        refine (gB _ HW).mono ?_
        rintro e6 w6 ⟨rfl, hb6⟩
        have up := fun i v (h : w5.cell? ⟨w.heap.size, i, none⟩ = some v) => (hb6.cell (p := ⟨w.heap.size, i, none⟩) hs).trans h
        replace c1 := up _ _ c1
        replace c2 := up _ _ c2
        replace c3 := up _ _ c3
        replace cH := up _ _ cH
        replace cN := up _ _ cN
        replace cT := up _ _ cT
        replace cG := up _ _ cG
        clear up
        replace HB := HB.trans (hb6.mono (by omega))
        replace HW := HW.trans (hb6.mono HW.size)
        replace hs := Nat.lt_of_lt_of_le hs hb6.size
        clear hb6 gB
        cases b1
        ·go_wp2
         go_ret
         exact ⟨by simp, HB⟩
        ·go_wp2_with fail
         refine (gC _ HW).mono ?_
         rintro e7 w7 ⟨rfl, hb7⟩
         have up := fun i v (h : w6.cell? ⟨w.heap.size, i, none⟩ = some v) => (hb7.cell (p := ⟨w.heap.size, i, none⟩) hs).trans h
         replace cN := up _ _ cN
         replace cT := up _ _ cT
         replace cG := up _ _ cG
         clear up
         replace HB := HB.trans (hb7.mono (by omega))
         replace HW := HW.trans (hb7.mono HW.size)
         replace hs := Nat.lt_of_lt_of_le hs hb7.size
         clear hb7 gC
         cases b2
         ·go_wp2
          go_ret
          exact ⟨by simp, HB⟩
         ·go_wp2_with fail
          refine (gN _ HW).mono ?_
          rintro e8 w8 ⟨rfl, hb8⟩
          have up := fun i v (h : w7.cell? ⟨w.heap.size, i, none⟩ = some v) => (hb8.cell (p := ⟨w.heap.size, i, none⟩) hs).trans h
          replace cT := up _ _ cT
          replace cG := up _ _ cG
          clear up
          replace HB := HB.trans (hb8.mono (by omega))
          replace HW := HW.trans (hb8.mono HW.size)
          replace hs := Nat.lt_of_lt_of_le hs hb8.size
          clear hb8 gN
          cases b3
          ·go_wp2
           go_ret
           exact ⟨by simp, HB⟩
          ·go_wp2_with fail
           refine (gG _ HW).mono ?_
           rintro e9 w9 ⟨rfl, hb9⟩
           replace HB := HB.trans (hb9.mono (by omega))
           clear hb9 gG
           cases b5
           all_goals
            go_wp2
            go_ret
            exact ⟨by first | rfl | simp, HB⟩
  ·by_cases h7 : k = 7
   ·rw [if_neg h2, if_pos h7]
    subst h7
    clear h2
    go_enter Tryz.func55, Tryz.ntmps55
    go_upto_region 1 with fail
    go_name_world w1 hw1
    obtain rfl : W = w1 := hW.out.symm.trans hw1
    clear hw1 hW
    have HB := hB
    have HW : Below W.heap.size W W := Below.refl _ _
    go_wp2_with fail
    refine (gE _).mono ?_
    rintro e1 w1 ⟨rfl, hx0⟩
    obtain rfl := hx0.symm
    clear hx0
    clear gE
    cases be
    ·go_wp2
     go_ret
     exact ⟨by simp, HB⟩
    ·go_wp2_with fail
     refine (gL _).mono ?_
     rintro e1 w1 ⟨rfl, hx0⟩
     obtain rfl := hx0.symm
     clear hx0
     clear gL
     cases bl
     ·go_wp2
      go_ret
      exact ⟨by simp, HB⟩
     ·go_wp2_with fail
      refine (gV _).mono ?_
      rintro e1 w1 ⟨rfl, hx0⟩
      obtain rfl := hx0.symm
      clear hx0
      clear gV
      cases bv
      ·go_wp2
       go_ret
       exact ⟨by simp, HB⟩
      ·go_wp2_with fail
       refine (gS _).mono ?_
       rintro e1 w1 ⟨rfl, hx0⟩
       obtain rfl := hx0.symm
       clear hx0
       clear gS
       cases bs
       ·go_wp2
        go_ret
        exact ⟨by simp, HB⟩
       ·go_wp2_with (refine wpList_load_g (by rfl) 31 _ rfl _ _ rfl uc _ rC Tryz.underlying31 rfl ic ?_)
        refine (gT _ HW).mono ?_
        rintro e5 w5 ⟨rfl, hb5⟩
        have up := fun i v (h : W.cell? ⟨w.heap.size, i, none⟩ = some v) => (hb5.cell (p := ⟨w.heap.size, i, none⟩) hs).trans h
        replace cQ := up _ _ cQ
        replace cR := up _ _ cR
        replace c1 := up _ _ c1
        replace c2 := up _ _ c2
        replace c3 := up _ _ c3
        replace cH := up _ _ cH
        replace cN := up _ _ cN
        replace cT := up _ _ cT
        replace cG := up _ _ cG
        clear up
        replace HB := HB.trans (hb5.mono (by omega))
        replace HW := HW.trans (hb5.mono HW.size)
        replace hs := Nat.lt_of_lt_of_le hs hb5.size
        clear hb5 gT
        cases bt
        ·go_wp2
         go_ret
         exact ⟨by simp, HB⟩
        ·go_wp2_with fail
         refine (gB _ HW).mono ?_
         rintro e6 w6 ⟨rfl, hb6⟩
         have up := fun i v (h : w5.cell? ⟨w.heap.size, i, none⟩ = some v) => (hb6.cell (p := ⟨w.heap.size, i, none⟩) hs).trans h
         replace c1 := up _ _ c1
         replace c2 := up _ _ c2
         replace c3 := up _ _ c3
         replace cH := up _ _ cH
         replace cN := up _ _ cN
         replace cT := up _ _ cT
         replace cG := up _ _ cG
         clear up
         replace HB := HB.trans (hb6.mono (by omega))
         replace HW := HW.trans (hb6.mono HW.size)
         replace hs := Nat.lt_of_lt_of_le hs hb6.size
         clear hb6 gB
         cases b1
         ·go_wp2
          go_ret
          exact ⟨by simp, HB⟩
         ·go_wp2_with fail
          refine (gC _ HW).mono ?_
          rintro e7 w7 ⟨rfl, hb7⟩
          have up := fun i v (h : w6.cell? ⟨w.heap.size, i, none⟩ = some v) => (hb7.cell (p := ⟨w.heap.size, i, none⟩) hs).trans h
          replace cN := up _ _ cN
          replace cT := up _ _ cT
          replace cG := up _ _ cG
          clear up
          replace HB := HB.trans (hb7.mono (by omega))
          replace HW := HW.trans (hb7.mono HW.size)
          replace hs := Nat.lt_of_lt_of_le hs hb7.size
          clear hb7 gC
          cases b2
          ·go_wp2
           go_ret
           exact ⟨by simp, HB⟩
          ·go_wp2_with fail
           refine (gN _ HW).mono ?_
           rintro e8 w8 ⟨rfl, hb8⟩
           have up := fun i v (h : w7.cell? ⟨w.heap.size, i, none⟩ = some v) => (hb8.cell (p := ⟨w.heap.size, i, none⟩) hs).trans h
           replace cT := up _ _ cT
           replace cG := up _ _ cG
           clear up
           replace HB := HB.trans (hb8.mono (by omega))
           replace HW := HW.trans (hb8.mono HW.size)
           replace hs := Nat.lt_of_lt_of_le hs hb8.size
           clear hb8 gN
           cases b3
           ·go_wp2
            go_ret
            exact ⟨by simp, HB⟩
           ·go_wp2_with fail
            refine (gG _ HW).mono ?_
            rintro e9 w9 ⟨rfl, hb9⟩
            replace HB := HB.trans (hb9.mono (by omega))
            clear hb9 gG
            cases b5
            all_goals
             go_wp2
             go_ret
             exact ⟨by first | rfl | simp, HB⟩
   ·rw [if_neg h2, if_neg h7]
    have n2 : (k == 2) = false := beq_eq_false_iff_ne.2 h2
    have n7 : (k == 7) = false := beq_eq_false_iff_ne.2 h7
    clear h2 h7
    go_enter Tryz.func55, Tryz.ntmps55
    go_upto_region 1 with fail
    go_name_world w1 hw1
    obtain rfl : W = w1 := hW.out.symm.trans hw1
    clear hw1 hW
    have HB := hB
    have HW : Below W.heap.size W W := Below.refl _ _
    go_wp2_with fail
    refine (gE _).mono ?_
    rintro e1 w1 ⟨rfl, hx0⟩
    obtain rfl := hx0.symm
    clear hx0
    clear gE
    cases be
    ·go_wp2
     go_ret
     exact ⟨by simp, HB⟩
    ·go_wp2_with fail
     refine (gL _).mono ?_
     rintro e1 w1 ⟨rfl, hx0⟩
     obtain rfl := hx0.symm
     clear hx0
     clear gL
     cases bl
     ·go_wp2
      go_ret
      exact ⟨by simp, HB⟩
     ·go_wp2_with fail
      refine (gV _).mono ?_
      rintro e1 w1 ⟨rfl, hx0⟩
      obtain rfl := hx0.symm
      clear hx0
      clear gV
      cases bv
      ·go_wp2
       go_ret
       exact ⟨by simp, HB⟩
      ·go_wp2_with fail
       refine (gS _).mono ?_
       rintro e1 w1 ⟨rfl, hx0⟩
       obtain rfl := hx0.symm
       clear hx0
       clear gS
       cases bs
       ·go_wp2
        go_ret
        exact ⟨by simp, HB⟩
       ·go_wp2_with fail
        refine (gB _ HW).mono ?_
        rintro e6 w6 ⟨rfl, hb6⟩
        have up := fun i v (h : W.cell? ⟨w.heap.size, i, none⟩ = some v) => (hb6.cell (p := ⟨w.heap.size, i, none⟩) hs).trans h
        replace c1 := up _ _ c1
        replace c2 := up _ _ c2
        replace c3 := up _ _ c3
        replace cH := up _ _ cH
        replace cN := up _ _ cN
        replace cT := up _ _ cT
        replace cG := up _ _ cG
        clear up
        replace HB := HB.trans (hb6.mono (by omega))
        replace HW := HW.trans (hb6.mono HW.size)
        replace hs := Nat.lt_of_lt_of_le hs hb6.size
        clear hb6 gB
        cases b1
        ·go_wp2
         go_ret
         exact ⟨by simp, HB⟩
        ·go_wp2_with fail
         refine (gC _ HW).mono ?_
         rintro e7 w7 ⟨rfl, hb7⟩
         have up := fun i v (h : w6.cell? ⟨w.heap.size, i, none⟩ = some v) => (hb7.cell (p := ⟨w.heap.size, i, none⟩) hs).trans h
         replace cN := up _ _ cN
         replace cT := up _ _ cT
         replace cG := up _ _ cG
         clear up
         replace HB := HB.trans (hb7.mono (by omega))
         replace HW := HW.trans (hb7.mono HW.size)
         replace hs := Nat.lt_of_lt_of_le hs hb7.size
         clear hb7 gC
         cases b2
         ·go_wp2
          go_ret
          exact ⟨by simp, HB⟩
         ·go_wp2_with fail
          refine (gN _ HW).mono ?_
          rintro e8 w8 ⟨rfl, hb8⟩
          have up := fun i v (h : w7.cell? ⟨w.heap.size, i, none⟩ = some v) => (hb8.cell (p := ⟨w.heap.size, i, none⟩) hs).trans h
          replace cT := up _ _ cT
          replace cG := up _ _ cG
          clear up
          replace HB := HB.trans (hb8.mono (by omega))
          replace HW := HW.trans (hb8.mono HW.size)
          replace hs := Nat.lt_of_lt_of_le hs hb8.size
          clear hb8 gN
          cases b3
          ·go_wp2
           go_ret
           exact ⟨by simp, HB⟩
          ·go_wp2_with fail
           refine (gG _ HW).mono ?_
           rintro e9 w9 ⟨rfl, hb9⟩
           replace HB := HB.trans (hb9.mono (by omega))
           clear hb9 gG
           cases b5
           all_goals
            go_wp2
            go_ret
            exact ⟨by first | rfl | simp, HB⟩
def Mg.plain (k : Int) : Mg := ⟨k, 0, 0, 0, 0, false, ⟨none, 0, []⟩, Vt.zero, 0, 0, 0, ⟨none, 0, []⟩, ⟨none, 0, []⟩, zeros32, Vt.zero, ⟨none, 0, []⟩, ⟨#[]⟩, ⟨none, 0, []⟩⟩
theorem Mg.plain_ok (k : Int) : (Mg.plain k).ok := ⟨Vt.zero_ok, Vt.zero_ok, zeros32_len, zeros32_byte⟩
theorem hds_none {w : World} : HdsAt w ⟨none, 0, []⟩ := ⟨RowsAt.none, fun _ h => by cases h⟩
def Mg.bare (m : Mg) : Mg :=
  if m.k = 1 then { Mg.plain 1 with q := m.q, rs := m.rs, e := m.e, s := m.s }
  else if m.k = 2 then { Mg.plain 2 with vt := m.vt }
  else if m.k = 3 then { Mg.plain 3 with ce := m.ce, cl := m.cl, cv := m.cv, he := m.he }
  else if m.k = 4 then { Mg.plain 4 with e := m.e, l := m.l, v := m.v, ne := m.ne }
  else if m.k = 5 then { Mg.plain 5 with e := m.e, d := m.d }
  else if m.k = 6 then { Mg.plain 6 with e := m.e, s := m.s }
  else if m.k = 7 then { Mg.plain 7 with q := m.q, rs := m.rs, ct := m.ct, cs := m.cs }
  else if m.k = 8 then { Mg.plain 8 with st := m.st, sg := m.sg }
  else Mg.plain m.k
theorem Mg.bare_1 {m : Mg} (h : m.k = 1) : m.bare = { Mg.plain 1 with q := m.q, rs := m.rs, e := m.e, s := m.s } := by unfold Mg.bare; rw [h]; rfl
theorem Mg.bare_2 {m : Mg} (h : m.k = 2) : m.bare = { Mg.plain 2 with vt := m.vt } := by unfold Mg.bare; rw [h]; rfl
theorem Mg.bare_3 {m : Mg} (h : m.k = 3) : m.bare = { Mg.plain 3 with ce := m.ce, cl := m.cl, cv := m.cv, he := m.he } := by unfold Mg.bare; rw [h]; rfl
theorem Mg.bare_4 {m : Mg} (h : m.k = 4) : m.bare = { Mg.plain 4 with e := m.e, l := m.l, v := m.v, ne := m.ne } := by unfold Mg.bare; rw [h]; rfl
theorem Mg.bare_5 {m : Mg} (h : m.k = 5) : m.bare = { Mg.plain 5 with e := m.e, d := m.d } := by unfold Mg.bare; rw [h]; rfl
theorem Mg.bare_6 {m : Mg} (h : m.k = 6) : m.bare = { Mg.plain 6 with e := m.e, s := m.s } := by unfold Mg.bare; rw [h]; rfl
theorem Mg.bare_7 {m : Mg} (h : m.k = 7) : m.bare = { Mg.plain 7 with q := m.q, rs := m.rs, ct := m.ct, cs := m.cs } := by unfold Mg.bare; rw [h]; rfl
theorem Mg.bare_8 {m : Mg} (h : m.k = 8) : m.bare = { Mg.plain 8 with st := m.st, sg := m.sg } := by unfold Mg.bare; rw [h]; rfl
theorem Mg.bare_ok {m : Mg} (h : m.ok) (h1 : 1 ≤ m.k) (h8 : m.k ≤ 8) : m.bare.ok := by
 have hk : m.k = 1 ∨ m.k = 2 ∨ m.k = 3 ∨ m.k = 4 ∨ m.k = 5 ∨ m.k = 6 ∨ m.k = 7 ∨ m.k = 8 := by omega
 have p := fun k => Mg.plain_ok k
 rcases hk with hk | hk | hk | hk | hk | hk | hk | hk
 ·rw [Mg.bare_1 hk]; exact ⟨by first | exact h.vt | exact (p 0).vt, by first | exact h.ct | exact (p 0).ct, by first | exact h.dl | exact (p 0).dl, by first | exact h.db | exact (p 0).db⟩
 ·rw [Mg.bare_2 hk]; exact ⟨by first | exact h.vt | exact (p 0).vt, by first | exact h.ct | exact (p 0).ct, by first | exact h.dl | exact (p 0).dl, by first | exact h.db | exact (p 0).db⟩
 ·rw [Mg.bare_3 hk]; exact ⟨by first | exact h.vt | exact (p 0).vt, by first | exact h.ct | exact (p 0).ct, by first | exact h.dl | exact (p 0).dl, by first | exact h.db | exact (p 0).db⟩
 ·rw [Mg.bare_4 hk]; exact ⟨by first | exact h.vt | exact (p 0).vt, by first | exact h.ct | exact (p 0).ct, by first | exact h.dl | exact (p 0).dl, by first | exact h.db | exact (p 0).db⟩
 ·rw [Mg.bare_5 hk]; exact ⟨by first | exact h.vt | exact (p 0).vt, by first | exact h.ct | exact (p 0).ct, by first | exact h.dl | exact (p 0).dl, by first | exact h.db | exact (p 0).db⟩
 ·rw [Mg.bare_6 hk]; exact ⟨by first | exact h.vt | exact (p 0).vt, by first | exact h.ct | exact (p 0).ct, by first | exact h.dl | exact (p 0).dl, by first | exact h.db | exact (p 0).db⟩
 ·rw [Mg.bare_7 hk]; exact ⟨by first | exact h.vt | exact (p 0).vt, by first | exact h.ct | exact (p 0).ct, by first | exact h.dl | exact (p 0).dl, by first | exact h.db | exact (p 0).db⟩
 ·rw [Mg.bare_8 hk]; exact ⟨by first | exact h.vt | exact (p 0).vt, by first | exact h.ct | exact (p 0).ct, by first | exact h.dl | exact (p 0).dl, by first | exact h.db | exact (p 0).db⟩
theorem Mg.bare_at {m : Mg} {w : World} (h : m.At w) (h1 : 1 ≤ m.k) (h8 : m.k ≤ 8) : m.bare.At w := by
 have hk : m.k = 1 ∨ m.k = 2 ∨ m.k = 3 ∨ m.k = 4 ∨ m.k = 5 ∨ m.k = 6 ∨ m.k = 7 ∨ m.k = 8 := by omega
 rcases hk with hk | hk | hk | hk | hk | hk | hk | hk
 ·rw [Mg.bare_1 hk]; exact ⟨by first | exact h.rs | exact RowsAt.none, by first | exact h.he | exact hds_none, by first | exact h.ne | exact RowsAt.none, by first | exact h.cs | exact RowsAt.none, by first | exact h.sg | exact RowsAt.none⟩
 ·rw [Mg.bare_2 hk]; exact ⟨by first | exact h.rs | exact RowsAt.none, by first | exact h.he | exact hds_none, by first | exact h.ne | exact RowsAt.none, by first | exact h.cs | exact RowsAt.none, by first | exact h.sg | exact RowsAt.none⟩
 ·rw [Mg.bare_3 hk]; exact ⟨by first | exact h.rs | exact RowsAt.none, by first | exact h.he | exact hds_none, by first | exact h.ne | exact RowsAt.none, by first | exact h.cs | exact RowsAt.none, by first | exact h.sg | exact RowsAt.none⟩
 ·rw [Mg.bare_4 hk]; exact ⟨by first | exact h.rs | exact RowsAt.none, by first | exact h.he | exact hds_none, by first | exact h.ne | exact RowsAt.none, by first | exact h.cs | exact RowsAt.none, by first | exact h.sg | exact RowsAt.none⟩
 ·rw [Mg.bare_5 hk]; exact ⟨by first | exact h.rs | exact RowsAt.none, by first | exact h.he | exact hds_none, by first | exact h.ne | exact RowsAt.none, by first | exact h.cs | exact RowsAt.none, by first | exact h.sg | exact RowsAt.none⟩
 ·rw [Mg.bare_6 hk]; exact ⟨by first | exact h.rs | exact RowsAt.none, by first | exact h.he | exact hds_none, by first | exact h.ne | exact RowsAt.none, by first | exact h.cs | exact RowsAt.none, by first | exact h.sg | exact RowsAt.none⟩
 ·rw [Mg.bare_7 hk]; exact ⟨by first | exact h.rs | exact RowsAt.none, by first | exact h.he | exact hds_none, by first | exact h.ne | exact RowsAt.none, by first | exact h.cs | exact RowsAt.none, by first | exact h.sg | exact RowsAt.none⟩
 ·rw [Mg.bare_8 hk]; exact ⟨by first | exact h.rs | exact RowsAt.none, by first | exact h.he | exact hds_none, by first | exact h.ne | exact RowsAt.none, by first | exact h.cs | exact RowsAt.none, by first | exact h.sg | exact RowsAt.none⟩
theorem bare_any (m : Mg) (om : m.ok) (h1 : 1 ≤ m.k) (h8 : m.k ≤ 8) (w : World) : Calls Tryz.prog 54 #[.agg m.ms.cells.toArray] w (BareOk w m.bare.ms.cells) := by
 have hk : m.k = 1 ∨ m.k = 2 ∨ m.k = 3 ∨ m.k = 4 ∨ m.k = 5 ∨ m.k = 6 ∨ m.k = 7 ∨ m.k = 8 := by omega
 rcases hk with hk | hk | hk | hk | hk | hk | hk | hk
 ·rw [Mg.bare_1 hk]; exact bareG1 m.ms om.ms hk w
 ·rw [Mg.bare_2 hk]; exact bareG2 m.ms om.ms hk w
 ·rw [Mg.bare_3 hk]; exact bareG3 m.ms om.ms hk w
 ·rw [Mg.bare_4 hk]; exact bareG4 m.ms om.ms hk w
 ·rw [Mg.bare_5 hk]; exact bareG5 m.ms om.ms hk w
 ·rw [Mg.bare_6 hk]; exact bareG6 m.ms om.ms hk w
 ·rw [Mg.bare_7 hk]; exact bareG7 m.ms om.ms hk w
 ·rw [Mg.bare_8 hk]; exact bareG8 m.ms om.ms hk w
theorem xonly_any (m : Mg) (om : m.ok) (h1 : 1 ≤ m.k) (h8 : m.k ≤ 8) (w : World) : Calls Tryz.prog 58 #[.agg m.ms.cells.toArray] w (BareOk w m.bare.ms.cells) := by
 have hk : m.k = 1 ∨ m.k = 2 ∨ m.k = 3 ∨ m.k = 4 ∨ m.k = 5 ∨ m.k = 6 ∨ m.k = 7 ∨ m.k = 8 := by omega
 rcases hk with hk | hk | hk | hk | hk | hk | hk | hk
 ·rw [Mg.bare_1 hk]; exact onlyG1 m.ms om.ms hk w
 ·rw [Mg.bare_2 hk]; exact onlyG2 m.ms om.ms hk w
 ·rw [Mg.bare_3 hk]; exact onlyG3 m.ms om.ms hk w
 ·rw [Mg.bare_4 hk]; exact onlyG4 m.ms om.ms hk w
 ·rw [Mg.bare_5 hk]; exact onlyG5 m.ms om.ms hk w
 ·rw [Mg.bare_6 hk]; exact onlyG6 m.ms om.ms hk w
 ·rw [Mg.bare_7 hk]; exact onlyG7 m.ms om.ms hk w
 ·rw [Mg.bare_8 hk]; exact onlyG8 m.ms om.ms hk w
def Mg.good (m : Mg) : Bool := decide (1 ≤ m.k ∧ m.k ≤ 8) && (Mg.B m m.bare && m.may)
set_option maxRecDepth 100000 in
set_option maxHeartbeats 4000000 in
theorem goodW (q q' : List Value) (k : Int) (b1 b2 : Bool) (w : World) (hq : q.length = 119) (h0 : q[0]? = some (.int .i64 k))
  (kb : 1 ≤ k → k ≤ 8 → ∀ w0, Below w.heap.size w w0 → Calls Tryz.prog 54 #[.agg q.toArray] w0 (BareOk w0 q'))
  (ks : 1 ≤ k → k ≤ 8 → ∀ w0, Below w.heap.size w w0 → Calls Tryz.prog 30 #[.agg q.toArray, .agg q'.toArray] w0 fun e w' => e = .returned (.bool b1) ∧ Below w0.heap.size w0 w')
  (kf : ∀ w0, Below w.heap.size w w0 → Calls Tryz.prog 55 #[.agg q.toArray] w0 fun e w' => e = .returned (.bool b2) ∧ Below w0.heap.size w0 w') :
  Calls Tryz.prog 26 #[.agg q.toArray] w fun e w' => e = .returned (.bool (decide (1 ≤ k ∧ k ≤ 8) && (b1 && b2))) ∧ Below w.heap.size w w' := by
 have hB : Below w.heap.size w (w.alloc (.cells q.toArray 63)) := (Below.refl _ _).alloc (Nat.le_refl _) _
 have hs : w.heap.size < (w.alloc (.cells q.toArray 63)).heap.size := by simp
 have hA : (w.alloc (.cells q.toArray 63)).rangeAt w.heap.size 0 q := by simpa using range_new w q.toArray 63
 have c0 := hA 0 _ h0
 simp only [Nat.add_zero] at c0
 have iq : (Tryz.prog.info? 63).map (·.size) = some q.length := by rw [hq]; exact iszM
 clear hq h0
 by_cases hk : 1 ≤ k ∧ k ≤ 8
 ·rw [decide_eq_true hk, Bool.true_and]
  replace kb := kb hk.1 hk.2
  replace ks := ks hk.1 hk.2
  obtain ⟨h1, h8⟩ := hk
  cases b1
  ·rw [Bool.false_and]
   go_enter Tryz.func26, Tryz.ntmps26
   go_upto_region 2 with fail
   obtain ⟨w8, hw8⟩ : ∃ w8, (w.alloc (.cells q.toArray 63)).drew = w8 := ⟨_, rfl⟩
   have hB8 : Below w.heap.size w w8 := by rw [← hw8]; exact hB.drew
   have hA8 : w8.rangeAt w.heap.size 0 q := by rw [← hw8]; exact (World.rangeAt_drew _ _ _ _).2 hA
   have hs8 : w.heap.size < w8.heap.size := by rw [← hw8]; exact hs
   have gb := fun w0 (h0 : Below w8.heap.size w8 w0) => kb w0 (hB8.trans (h0.mono hB8.size))
   have gs := fun w0 (h0 : Below w8.heap.size w8 w0) => ks w0 (hB8.trans (h0.mono hB8.size))
   have gf := fun w0 (h0 : Below w8.heap.size w8 w0) => kf w0 (hB8.trans (h0.mono hB8.size))
   refine hs_begin (S := (Below w8.heap.size w8)) 12 rfl (by kernel_rfl) ?_
   rw [hw8]
   clear hw8 hA hB hs c0 kb ks kf
   have hS : (Below w8.heap.size w8) w8 := Below.refl _ _
   refine hs_t 0 12 (?_) rfl (by kernel_rfl) (by kernel_rfl) (by kernel_rfl) (by rfl) ?_ hS rfl ?_
   rotate_left
   ·intro w' hw
    go_simp
    try with_reducible rfl
   simp only [nz]
   refine hs_t 1 13 (?_) rfl (by kernel_rfl) (by kernel_rfl) (by kernel_rfl) (by rfl) ?_ hS rfl ?_
   rotate_left
   ·intro w' hw
    go_simp
    try with_reducible rfl
   simp only [nz]
   refine hs_t 2 14 (.agg q.toArray) rfl (by kernel_rfl) (by kernel_rfl) (by kernel_rfl) (by rfl) (fun w' hw => exec_loadC rfl rfl (run_loadVar_mid (P := Tryz.prog) w' w.heap.size 0 63 q _ (range_below hA8 hw hs8) Tryz.underlying63 rfl iq)) hS rfl ?_
   simp only [nz]
   refine hs_t 3 15 (.agg q.toArray) rfl (by kernel_rfl) (by kernel_rfl) (by kernel_rfl) (by rfl) (fun w' hw => exec_loadC rfl rfl (run_loadVar_mid (P := Tryz.prog) w' w.heap.size 0 63 q _ (range_below hA8 hw hs8) Tryz.underlying63 rfl iq)) hS rfl ?_
   simp only [nz]
   refine hs_call (i := 4) (d := some 16) rfl (by kernel_rfl) (by rfl) (by go_simp; first | done | exact ⟨rfl, rfl⟩ | with_reducible rfl) rfl ?_
   refine (gb _ hS).mono ?_
   rintro e' wn1 ⟨rfl, hb1⟩
   have hS : (Below w8.heap.size w8) wn1 := hS.trans (hb1.mono hS.size)
   refine ⟨_, rfl, hS, ?_⟩
   simp only [nz]
   refine hs_call (i := 5) (d := some 17) rfl (by kernel_rfl) (by rfl) (by go_simp; first | done | exact ⟨rfl, rfl⟩ | with_reducible rfl) rfl ?_
   refine (gs _ hS).mono ?_
   rintro e' wn2 ⟨rfl, hb2⟩
   have hS : (Below w8.heap.size w8) wn2 := hS.trans (hb2.mono hS.size)
   refine ⟨_, rfl, hS, ?_⟩
   simp only [nz]
   refine hs_t 6 18 (?_) rfl (by kernel_rfl) (by kernel_rfl) (by kernel_rfl) (by rfl) ?_ hS rfl ?_
   rotate_left
   ·intro w' hw
    go_simp
    try with_reducible rfl
   simp only [nz]
   refine hs_t 7 19 (?_) rfl (by kernel_rfl) (by kernel_rfl) (by kernel_rfl) (by rfl) ?_ hS rfl ?_
   rotate_left
   ·intro w' hw
    go_simp
    try with_reducible rfl
   simp only [nz]
   refine hs_skip (i := 8) (d := some 20) rfl (by kernel_rfl) (by kernel_rfl) (by kernel_rfl) (by rfl) hS rfl ?_
   simp only [nz]
   refine hs_skip (i := 9) (d := some 21) rfl (by kernel_rfl) (by kernel_rfl) (by kernel_rfl) (by rfl) hS rfl ?_
   simp only [nz]
   refine hs_t 10 22 (?_) rfl (by kernel_rfl) (by kernel_rfl) (by kernel_rfl) (by rfl) ?_ hS rfl ?_
   rotate_left
   ·intro w' hw
    go_simp
    try with_reducible rfl
   simp only [nz]
   refine hs_t 11 2 (?_) rfl (by kernel_rfl) (by kernel_rfl) (by kernel_rfl) (by rfl) ?_ hS rfl ?_
   rotate_left
   ·intro w' hw
    go_simp
    try with_reducible rfl
   simp only [nz]
   refine hs_done (by kernel_rfl) ?_
   go_wp2
   go_ret
   exact ⟨rfl, hB8.trans (hS.mono hB8.size)⟩
  ·rw [Bool.true_and]
   go_enter Tryz.func26, Tryz.ntmps26
   go_upto_region 2 with fail
   obtain ⟨w8, hw8⟩ : ∃ w8, (w.alloc (.cells q.toArray 63)).drew = w8 := ⟨_, rfl⟩
   have hB8 : Below w.heap.size w w8 := by rw [← hw8]; exact hB.drew
   have hA8 : w8.rangeAt w.heap.size 0 q := by rw [← hw8]; exact (World.rangeAt_drew _ _ _ _).2 hA
   have hs8 : w.heap.size < w8.heap.size := by rw [← hw8]; exact hs
   have gb := fun w0 (h0 : Below w8.heap.size w8 w0) => kb w0 (hB8.trans (h0.mono hB8.size))
   have gs := fun w0 (h0 : Below w8.heap.size w8 w0) => ks w0 (hB8.trans (h0.mono hB8.size))
   have gf := fun w0 (h0 : Below w8.heap.size w8 w0) => kf w0 (hB8.trans (h0.mono hB8.size))
   refine hs_begin (S := (Below w8.heap.size w8)) 12 rfl (by kernel_rfl) ?_
   rw [hw8]
   clear hw8 hA hB hs c0 kb ks kf
   have hS : (Below w8.heap.size w8) w8 := Below.refl _ _
   refine hs_t 0 12 (?_) rfl (by kernel_rfl) (by kernel_rfl) (by kernel_rfl) (by rfl) ?_ hS rfl ?_
   rotate_left
   ·intro w' hw
    go_simp
    try with_reducible rfl
   simp only [nz]
   refine hs_t 1 13 (?_) rfl (by kernel_rfl) (by kernel_rfl) (by kernel_rfl) (by rfl) ?_ hS rfl ?_
   rotate_left
   ·intro w' hw
    go_simp
    try with_reducible rfl
   simp only [nz]
   refine hs_t 2 14 (.agg q.toArray) rfl (by kernel_rfl) (by kernel_rfl) (by kernel_rfl) (by rfl) (fun w' hw => exec_loadC rfl rfl (run_loadVar_mid (P := Tryz.prog) w' w.heap.size 0 63 q _ (range_below hA8 hw hs8) Tryz.underlying63 rfl iq)) hS rfl ?_
   simp only [nz]
   refine hs_t 3 15 (.agg q.toArray) rfl (by kernel_rfl) (by kernel_rfl) (by kernel_rfl) (by rfl) (fun w' hw => exec_loadC rfl rfl (run_loadVar_mid (P := Tryz.prog) w' w.heap.size 0 63 q _ (range_below hA8 hw hs8) Tryz.underlying63 rfl iq)) hS rfl ?_
   simp only [nz]
   refine hs_call (i := 4) (d := some 16) rfl (by kernel_rfl) (by rfl) (by go_simp; first | done | exact ⟨rfl, rfl⟩ | with_reducible rfl) rfl ?_
   refine (gb _ hS).mono ?_
   rintro e' wn1 ⟨rfl, hb1⟩
   have hS : (Below w8.heap.size w8) wn1 := hS.trans (hb1.mono hS.size)
   refine ⟨_, rfl, hS, ?_⟩
   simp only [nz]
   refine hs_call (i := 5) (d := some 17) rfl (by kernel_rfl) (by rfl) (by go_simp; first | done | exact ⟨rfl, rfl⟩ | with_reducible rfl) rfl ?_
   refine (gs _ hS).mono ?_
   rintro e' wn2 ⟨rfl, hb2⟩
   have hS : (Below w8.heap.size w8) wn2 := hS.trans (hb2.mono hS.size)
   refine ⟨_, rfl, hS, ?_⟩
   simp only [nz]
   refine hs_t 6 18 (?_) rfl (by kernel_rfl) (by kernel_rfl) (by kernel_rfl) (by rfl) ?_ hS rfl ?_
   rotate_left
   ·intro w' hw
    go_simp
    try with_reducible rfl
   simp only [nz]
   refine hs_t 7 19 (?_) rfl (by kernel_rfl) (by kernel_rfl) (by kernel_rfl) (by rfl) ?_ hS rfl ?_
   rotate_left
   ·intro w' hw
    go_simp
    try with_reducible rfl
   simp only [nz]
   refine hs_t 8 20 (.agg q.toArray) rfl (by kernel_rfl) (by kernel_rfl) (by kernel_rfl) (by rfl) (fun w' hw => exec_loadC rfl rfl (run_loadVar_mid (P := Tryz.prog) w' w.heap.size 0 63 q _ (range_below hA8 hw hs8) Tryz.underlying63 rfl iq)) hS rfl ?_
   simp only [nz]
   refine hs_call (i := 9) (d := some 21) rfl (by kernel_rfl) (by rfl) (by go_simp; first | done | exact ⟨rfl, rfl⟩ | with_reducible rfl) rfl ?_
   refine (gf _ hS).mono ?_
   rintro e' wn3 ⟨rfl, hb3⟩
   have hS : (Below w8.heap.size w8) wn3 := hS.trans (hb3.mono hS.size)
   refine ⟨_, rfl, hS, ?_⟩
   simp only [nz]
   refine hs_t 10 22 (?_) rfl (by kernel_rfl) (by kernel_rfl) (by kernel_rfl) (by rfl) ?_ hS rfl ?_
   rotate_left
   ·intro w' hw
    go_simp
    try with_reducible rfl
   simp only [nz]
   refine hs_t 11 2 (?_) rfl (by kernel_rfl) (by kernel_rfl) (by kernel_rfl) (by rfl) ?_ hS rfl ?_
   rotate_left
   ·intro w' hw
    go_simp
    try with_reducible rfl
   simp only [nz]
   refine hs_done (by kernel_rfl) ?_
   go_wp2
   go_ret
   exact ⟨rfl, hB8.trans (hS.mono hB8.size)⟩
 ·rw [decide_eq_false hk, Bool.false_and]
  have hk' : k < 1 ∨ (1 ≤ k ∧ 8 < k) := by omega
  clear hk kb ks kf
  have kb : ∀ w0, Below w.heap.size w w0 → True := fun _ _ => trivial
  have ks := kb
  have kf := kb
  rcases hk' with hk | ⟨hk, hk2⟩
  ·have n1 : ¬ 1 ≤ k := by omega
   go_enter Tryz.func26, Tryz.ntmps26
   go_upto_region 2 with fail
   obtain ⟨w8, hw8⟩ : ∃ w8, (w.alloc (.cells q.toArray 63)).drew = w8 := ⟨_, rfl⟩
   have hB8 : Below w.heap.size w w8 := by rw [← hw8]; exact hB.drew
   have hA8 : w8.rangeAt w.heap.size 0 q := by rw [← hw8]; exact (World.rangeAt_drew _ _ _ _).2 hA
   have hs8 : w.heap.size < w8.heap.size := by rw [← hw8]; exact hs
   have gb := fun w0 (h0 : Below w8.heap.size w8 w0) => kb w0 (hB8.trans (h0.mono hB8.size))
   have gs := fun w0 (h0 : Below w8.heap.size w8 w0) => ks w0 (hB8.trans (h0.mono hB8.size))
   have gf := fun w0 (h0 : Below w8.heap.size w8 w0) => kf w0 (hB8.trans (h0.mono hB8.size))
   refine hs_begin (S := (Below w8.heap.size w8)) 12 rfl (by kernel_rfl) ?_
   rw [hw8]
   clear hw8 hA hB hs c0 kb ks kf
   have hS : (Below w8.heap.size w8) w8 := Below.refl _ _
   refine hs_t 0 12 (?_) rfl (by kernel_rfl) (by kernel_rfl) (by kernel_rfl) (by rfl) ?_ hS rfl ?_
   rotate_left
   ·intro w' hw
    go_simp
    try with_reducible rfl
   simp only [nz]
   refine hs_t 1 13 (?_) rfl (by kernel_rfl) (by kernel_rfl) (by kernel_rfl) (by rfl) ?_ hS rfl ?_
   rotate_left
   ·intro w' hw
    go_simp
    try with_reducible rfl
   simp only [nz]
   refine hs_skip (i := 2) (d := some 14) rfl (by kernel_rfl) (by kernel_rfl) (by kernel_rfl) (by rfl) hS rfl ?_
   simp only [nz]
   refine hs_skip (i := 3) (d := some 15) rfl (by kernel_rfl) (by kernel_rfl) (by kernel_rfl) (by rfl) hS rfl ?_
   simp only [nz]
   refine hs_skip (i := 4) (d := some 16) rfl (by kernel_rfl) (by kernel_rfl) (by kernel_rfl) (by rfl) hS rfl ?_
   simp only [nz]
   refine hs_skip (i := 5) (d := some 17) rfl (by kernel_rfl) (by kernel_rfl) (by kernel_rfl) (by rfl) hS rfl ?_
   simp only [nz]
   refine hs_t 6 18 (?_) rfl (by kernel_rfl) (by kernel_rfl) (by kernel_rfl) (by rfl) ?_ hS rfl ?_
   rotate_left
   ·intro w' hw
    go_simp
    try with_reducible rfl
   simp only [nz]
   refine hs_t 7 19 (?_) rfl (by kernel_rfl) (by kernel_rfl) (by kernel_rfl) (by rfl) ?_ hS rfl ?_
   rotate_left
   ·intro w' hw
    go_simp
    try with_reducible rfl
   simp only [nz]
   refine hs_skip (i := 8) (d := some 20) rfl (by kernel_rfl) (by kernel_rfl) (by kernel_rfl) (by rfl) hS rfl ?_
   simp only [nz]
   refine hs_skip (i := 9) (d := some 21) rfl (by kernel_rfl) (by kernel_rfl) (by kernel_rfl) (by rfl) hS rfl ?_
   simp only [nz]
   refine hs_t 10 22 (?_) rfl (by kernel_rfl) (by kernel_rfl) (by kernel_rfl) (by rfl) ?_ hS rfl ?_
   rotate_left
   ·intro w' hw
    go_simp
    try with_reducible rfl
   simp only [nz]
   refine hs_t 11 2 (?_) rfl (by kernel_rfl) (by kernel_rfl) (by kernel_rfl) (by rfl) ?_ hS rfl ?_
   rotate_left
   ·intro w' hw
    go_simp
    try with_reducible rfl
   simp only [nz]
   refine hs_done (by kernel_rfl) ?_
   go_wp2
   go_ret
   exact ⟨rfl, hB8.trans (hS.mono hB8.size)⟩
  ·have n1 : ¬ k ≤ 8 := by omega
   go_enter Tryz.func26, Tryz.ntmps26
   go_upto_region 2 with fail
   obtain ⟨w8, hw8⟩ : ∃ w8, (w.alloc (.cells q.toArray 63)).drew = w8 := ⟨_, rfl⟩
   have hB8 : Below w.heap.size w w8 := by rw [← hw8]; exact hB.drew
   have hA8 : w8.rangeAt w.heap.size 0 q := by rw [← hw8]; exact (World.rangeAt_drew _ _ _ _).2 hA
   have hs8 : w.heap.size < w8.heap.size := by rw [← hw8]; exact hs
   have gb := fun w0 (h0 : Below w8.heap.size w8 w0) => kb w0 (hB8.trans (h0.mono hB8.size))
   have gs := fun w0 (h0 : Below w8.heap.size w8 w0) => ks w0 (hB8.trans (h0.mono hB8.size))
   have gf := fun w0 (h0 : Below w8.heap.size w8 w0) => kf w0 (hB8.trans (h0.mono hB8.size))
   refine hs_begin (S := (Below w8.heap.size w8)) 12 rfl (by kernel_rfl) ?_
   rw [hw8]
   clear hw8 hA hB hs c0 kb ks kf
   have hS : (Below w8.heap.size w8) w8 := Below.refl _ _
   refine hs_t 0 12 (?_) rfl (by kernel_rfl) (by kernel_rfl) (by kernel_rfl) (by rfl) ?_ hS rfl ?_
   rotate_left
   ·intro w' hw
    go_simp
    try with_reducible rfl
   simp only [nz]
   refine hs_t 1 13 (?_) rfl (by kernel_rfl) (by kernel_rfl) (by kernel_rfl) (by rfl) ?_ hS rfl ?_
   rotate_left
   ·intro w' hw
    go_simp
    try with_reducible rfl
   simp only [nz]
   refine hs_skip (i := 2) (d := some 14) rfl (by kernel_rfl) (by kernel_rfl) (by kernel_rfl) (by rfl) hS rfl ?_
   simp only [nz]
   refine hs_skip (i := 3) (d := some 15) rfl (by kernel_rfl) (by kernel_rfl) (by kernel_rfl) (by rfl) hS rfl ?_
   simp only [nz]
   refine hs_skip (i := 4) (d := some 16) rfl (by kernel_rfl) (by kernel_rfl) (by kernel_rfl) (by rfl) hS rfl ?_
   simp only [nz]
   refine hs_skip (i := 5) (d := some 17) rfl (by kernel_rfl) (by kernel_rfl) (by kernel_rfl) (by rfl) hS rfl ?_
   simp only [nz]
   refine hs_t 6 18 (?_) rfl (by kernel_rfl) (by kernel_rfl) (by kernel_rfl) (by rfl) ?_ hS rfl ?_
   rotate_left
   ·intro w' hw
    go_simp
    try with_reducible rfl
   simp only [nz]
   refine hs_t 7 19 (?_) rfl (by kernel_rfl) (by kernel_rfl) (by kernel_rfl) (by rfl) ?_ hS rfl ?_
   rotate_left
   ·intro w' hw
    go_simp
    try with_reducible rfl
   simp only [nz]
   refine hs_skip (i := 8) (d := some 20) rfl (by kernel_rfl) (by kernel_rfl) (by kernel_rfl) (by rfl) hS rfl ?_
   simp only [nz]
   refine hs_skip (i := 9) (d := some 21) rfl (by kernel_rfl) (by kernel_rfl) (by kernel_rfl) (by rfl) hS rfl ?_
   simp only [nz]
   refine hs_t 10 22 (?_) rfl (by kernel_rfl) (by kernel_rfl) (by kernel_rfl) (by rfl) ?_ hS rfl ?_
   rotate_left
   ·intro w' hw
    go_simp
    try with_reducible rfl
   simp only [nz]
   refine hs_t 11 2 (?_) rfl (by kernel_rfl) (by kernel_rfl) (by kernel_rfl) (by rfl) ?_ hS rfl ?_
   rotate_left
   ·intro w' hw
    go_simp
    try with_reducible rfl
   simp only [nz]
   refine hs_done (by kernel_rfl) ?_
   go_wp2
   go_ret
   exact ⟨rfl, hB8.trans (hS.mono hB8.size)⟩
theorem good_any (m : Mg) (w : World) (om : m.ok) (am : m.At w) : Calls Tryz.prog 26 #[.agg m.ms.cells.toArray] w fun e w' => e = .returned (.bool m.good) ∧ Below w.heap.size w w' :=
 goodW m.ms.cells m.bare.ms.cells m.k (Mg.B m m.bare) m.may w om.ms.len rfl (fun h1 h8 w0 _ => bare_any m om h1 h8 w0) (fun h1 h8 w0 h0 => msame_any m m.bare w0 om (Mg.bare_ok om h1 h8) (am.below h0) ((Mg.bare_at am h1 h8).below h0)) (fun w0 h0 => fieldsMay_any m w0 om (am.below h0))
end Go.Proofs.YtinndbipomlokaaGreat
