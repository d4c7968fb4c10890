/- a journal's Bytes; the journal's find; the journal's Open; a journal's Sure; the document's tape beside what must stay; the document's Frames, and where its records lie; its area; the document's journal: On, Sync, Append; the document's journal: lay; the document's journal: Lay -/
import Derived.Test.YtfkchnjbbbhmjaaGreatXP8
import Derived.Test.YtfkchnjbbbhmjaaGreatXP4
namespace Go.Proofs.YtfkchnjbbbhmjaaGreat
open Go.RowKit
def Mt.sureOf (M : Mt) (area : Int) : Int := if area = 0 then (M.sa : Int) else if area = 1 then (M.sb : Int) else 0
def Mt.jbytes (M : Mt) (area : Int) : Int := if M.on then ((M.read area).length : Int) else M.sureOf area
set_option maxRecDepth 100000 in
set_option maxHeartbeats 4000000 in
theorem jbytes_any (j : Jv) (M : Mt) (A : Nat → Prop) (w : World) (h : JAt w j) (hT : Live A w j.p M) : Calls Tryz.prog 11 #[jptr j] w fun e w' => e = .returned (.int .i64 (M.jbytes j.ar)) ∧ Below w.heap.size w w' := by
  have cm := jmade_any j w h
  have h0 := h.cell 0 rfl
  have cO := live_on hT
  unfold jptr at *
  go_enter Tryz.func11, Tryz.ntmps11
  cases hon : M.on
  · rw [hon] at cO
    have HR : Hid (M.jbytes j.ar = M.sureOf j.ar) := hide (by unfold Mt.jbytes; rw [hon]; rfl)
    clear hon
    go_wp2_with fail
    refine cm.mono ?_
    rintro e w' ⟨rfl, hw⟩
    obtain rfl := hw.symm
    clear cm hw
    go_wp2_with fail
    refine cO.mono ?_
    rintro e w' ⟨rfl, hw⟩
    obtain rfl := hw.symm
    clear cO hw
    go_wp2_with fail
    obtain ⟨w8, hw8⟩ : ∃ w8, w.drew = w8 := ⟨_, rfl⟩
    have hB8 : Below w.heap.size w w8 := by rw [← hw8]; exact (Below.refl _ _).drew
    have k0 : ∀ w', Below w8.heap.size w8 w' → w'.cell? ⟨j.q, 0, none⟩ = some (.pointer (some ⟨j.p, 0, none⟩)) := fun w' hw => (h.below (hB8.trans (hw.mono hB8.size))).cell 0 rfl
    have k1 : ∀ w', Below w8.heap.size w8 w' → w'.cell? ⟨j.q, 1, none⟩ = some (.int .i64 j.ar) := fun w' hw => (h.below (hB8.trans (hw.mono hB8.size))).cell 1 rfl
    have cS := live_sure (hT.below hB8) j.ar
    have e0 : (if j.ar = 0 then (M.sa : Int) else if j.ar = 1 then (M.sb : Int) else 0) = M.sureOf j.ar := rfl
    rw [e0] at cS
    generalize M.sureOf j.ar = n at *
    clear hT h0 e0
    refine hs_begin (S := (Below w8.heap.size w8)) 10 rfl (by kernel_rfl) ?_
    rw [hw8]
    clear hw8
    have hS : (Below w8.heap.size w8) w8 := Below.refl _ _
    refine hs_take (i := 0) (d := some 14) (v := ?_) rfl (by kernel_rfl) (by kernel_rfl) (by kernel_rfl) (by rfl) ?_ hS rfl ?_
    rotate_left
    · intro w' hw
      go_simp
      try with_reducible rfl
    simp only [Act.put, List.setIfInBounds_toArray, List.set_cons_zero, List.set_cons_succ]
    refine hs_take (i := 1) (d := some 15) (v := ?_) rfl (by kernel_rfl) (by kernel_rfl) (by kernel_rfl) (by rfl) ?_ hS rfl ?_
    rotate_left
    · intro w' hw
      go_simp
      try with_reducible rfl
    simp only [Act.put, List.setIfInBounds_toArray, List.set_cons_zero, List.set_cons_succ]
    refine hs_take (i := 2) (d := some 16) (v := ?_) rfl (by kernel_rfl) (by kernel_rfl) (by kernel_rfl) (by rfl) ?_ hS rfl ?_
    rotate_left
    · intro w' hw
      go_simp
      try with_reducible rfl
    simp only [Act.put, List.setIfInBounds_toArray, List.set_cons_zero, List.set_cons_succ]
    refine hs_take (i := 3) (d := some 17) (v := ?_) rfl (by kernel_rfl) (by kernel_rfl) (by kernel_rfl) (by rfl) ?_ hS rfl ?_
    rotate_left
    · intro w' hw
      have := k0 w' hw
      go_simp
      try with_reducible rfl
    simp only [Act.put, List.setIfInBounds_toArray, List.set_cons_zero, List.set_cons_succ]
    refine hs_take (i := 4) (d := some 18) (v := ?_) rfl (by kernel_rfl) (by kernel_rfl) (by kernel_rfl) (by rfl) ?_ hS rfl ?_
    rotate_left
    · intro w' hw
      go_simp
      try with_reducible rfl
    simp only [Act.put, List.setIfInBounds_toArray, List.set_cons_zero, List.set_cons_succ]
    refine hs_take (i := 5) (d := some 19) (v := ?_) rfl (by kernel_rfl) (by kernel_rfl) (by kernel_rfl) (by rfl) ?_ hS rfl ?_
    rotate_left
    · intro w' hw
      go_simp
      try with_reducible rfl
    simp only [Act.put, List.setIfInBounds_toArray, List.set_cons_zero, List.set_cons_succ]
    refine hs_take (i := 6) (d := some 20) (v := ?_) rfl (by kernel_rfl) (by kernel_rfl) (by kernel_rfl) (by rfl) ?_ hS rfl ?_
    rotate_left
    · intro w' hw
      go_simp
      try with_reducible rfl
    simp only [Act.put, List.setIfInBounds_toArray, List.set_cons_zero, List.set_cons_succ]
    refine hs_take (i := 7) (d := some 21) (v := ?_) rfl (by kernel_rfl) (by kernel_rfl) (by kernel_rfl) (by rfl) ?_ hS rfl ?_
    rotate_left
    · intro w' hw
      have := k1 w' hw
      go_simp
      try with_reducible rfl
    simp only [Act.put, List.setIfInBounds_toArray, List.set_cons_zero, List.set_cons_succ]
    refine hs_call (i := 8) (d := some 22) rfl (by kernel_rfl) (by rfl) (by go_simp; first | done | exact ⟨rfl, rfl⟩ | with_reducible rfl) rfl ?_
    refine (cS).mono ?_
    rintro e' w9 ⟨rfl, hx⟩
    have hS : Below w8.heap.size w8 w9 := by rw [hx]; exact hS
    refine ⟨_, rfl, hS, ?_⟩
    simp only [Act.put, List.setIfInBounds_toArray, List.set_cons_zero, List.set_cons_succ]
    obtain rfl := hx.symm
    clear hx
    refine hs_take (i := 9) (d := some 2) (v := ?_) rfl (by kernel_rfl) (by kernel_rfl) (by kernel_rfl) (by rfl) ?_ hS rfl ?_
    rotate_left
    · intro w' hw
      go_simp
      try with_reducible rfl
    simp only [Act.put, List.setIfInBounds_toArray, List.set_cons_zero, List.set_cons_succ]
    refine hs_done (by kernel_rfl) ?_
    go_wp2
    go_ret
    rw [HR.out]
    exact ⟨rfl, hB8⟩
  · rw [hon] at cO
    have HR : Hid (M.jbytes j.ar = ((M.read j.ar).length : Int)) := hide (by unfold Mt.jbytes; rw [hon]; rfl)
    clear hon
    go_wp2_with fail
    refine cm.mono ?_
    rintro e w' ⟨rfl, hw⟩
    obtain rfl := hw.symm
    clear cm hw
    go_wp2_with fail
    refine cO.mono ?_
    rintro e w' ⟨rfl, hw⟩
    obtain rfl := hw.symm
    clear cO hw
    go_wp2_with fail
    obtain ⟨w8, hw8⟩ : ∃ w8, w.drew = w8 := ⟨_, rfl⟩
    have hB8 : Below w.heap.size w w8 := by rw [← hw8]; exact (Below.refl _ _).drew
    have k0 : ∀ w', Below w8.heap.size w8 w' → w'.cell? ⟨j.q, 0, none⟩ = some (.pointer (some ⟨j.p, 0, none⟩)) := fun w' hw => (h.below (hB8.trans (hw.mono hB8.size))).cell 0 rfl
    have k1 : ∀ w', Below w8.heap.size w8 w' → w'.cell? ⟨j.q, 1, none⟩ = some (.int .i64 j.ar) := fun w' hw => (h.below (hB8.trans (hw.mono hB8.size))).cell 1 rfl
    have cR := live_read (hT.below hB8) j.ar
    generalize M.read j.ar = zs at *
    clear hT h0
    refine hs_begin (S := (Below w8.heap.size w8)) 14 rfl (by kernel_rfl) ?_
    rw [hw8]
    clear hw8
    have hS : (Below w8.heap.size w8) w8 := Below.refl _ _
    refine hs_take (i := 0) (d := some 24) (v := ?_) rfl (by kernel_rfl) (by kernel_rfl) (by kernel_rfl) (by rfl) ?_ hS rfl ?_
    rotate_left
    · intro w' hw
      go_simp
      try with_reducible rfl
    simp only [Act.put, List.setIfInBounds_toArray, List.set_cons_zero, List.set_cons_succ]
    refine hs_take (i := 1) (d := some 25) (v := ?_) rfl (by kernel_rfl) (by kernel_rfl) (by kernel_rfl) (by rfl) ?_ hS rfl ?_
    rotate_left
    · intro w' hw
      go_simp
      try with_reducible rfl
    simp only [Act.put, List.setIfInBounds_toArray, List.set_cons_zero, List.set_cons_succ]
    refine hs_take (i := 2) (d := some 26) (v := ?_) rfl (by kernel_rfl) (by kernel_rfl) (by kernel_rfl) (by rfl) ?_ hS rfl ?_
    rotate_left
    · intro w' hw
      go_simp
      try with_reducible rfl
    simp only [Act.put, List.setIfInBounds_toArray, List.set_cons_zero, List.set_cons_succ]
    refine hs_take (i := 3) (d := some 27) (v := ?_) rfl (by kernel_rfl) (by kernel_rfl) (by kernel_rfl) (by rfl) ?_ hS rfl ?_
    rotate_left
    · intro w' hw
      have := k0 w' hw
      go_simp
      try with_reducible rfl
    simp only [Act.put, List.setIfInBounds_toArray, List.set_cons_zero, List.set_cons_succ]
    refine hs_take (i := 4) (d := some 28) (v := ?_) rfl (by kernel_rfl) (by kernel_rfl) (by kernel_rfl) (by rfl) ?_ hS rfl ?_
    rotate_left
    · intro w' hw
      go_simp
      try with_reducible rfl
    simp only [Act.put, List.setIfInBounds_toArray, List.set_cons_zero, List.set_cons_succ]
    refine hs_take (i := 5) (d := some 29) (v := ?_) rfl (by kernel_rfl) (by kernel_rfl) (by kernel_rfl) (by rfl) ?_ hS rfl ?_
    rotate_left
    · intro w' hw
      go_simp
      try with_reducible rfl
    simp only [Act.put, List.setIfInBounds_toArray, List.set_cons_zero, List.set_cons_succ]
    refine hs_take (i := 6) (d := some 30) (v := ?_) rfl (by kernel_rfl) (by kernel_rfl) (by kernel_rfl) (by rfl) ?_ hS rfl ?_
    rotate_left
    · intro w' hw
      go_simp
      try with_reducible rfl
    simp only [Act.put, List.setIfInBounds_toArray, List.set_cons_zero, List.set_cons_succ]
    refine hs_take (i := 7) (d := some 31) (v := ?_) rfl (by kernel_rfl) (by kernel_rfl) (by kernel_rfl) (by rfl) ?_ hS rfl ?_
    rotate_left
    · intro w' hw
      have := k1 w' hw
      go_simp
      try with_reducible rfl
    simp only [Act.put, List.setIfInBounds_toArray, List.set_cons_zero, List.set_cons_succ]
    refine hs_call (i := 8) (d := some 32) rfl (by kernel_rfl) (by rfl) (by go_simp; first | done | exact ⟨rfl, rfl⟩ | with_reducible rfl) rfl ?_
    refine (cR).mono ?_
    rintro e' w9 ⟨ra, rc, rfl, -, hB9, -⟩
    have hS : Below w8.heap.size w8 w9 := hB9
    refine ⟨_, rfl, hS, ?_⟩
    simp only [Act.put, List.setIfInBounds_toArray, List.set_cons_zero, List.set_cons_succ]
    refine hs_take (i := 9) (d := some 23) (v := ?_) rfl (by kernel_rfl) (by kernel_rfl) (by kernel_rfl) (by rfl) ?_ hS rfl ?_
    rotate_left
    · intro w' hw
      go_simp
      try with_reducible rfl
    simp only [Act.put, List.setIfInBounds_toArray, List.set_cons_zero, List.set_cons_succ]
    refine hs_take (i := 10) (d := some 33) (v := ?_) rfl (by kernel_rfl) (by kernel_rfl) (by kernel_rfl) (by rfl) ?_ hS rfl ?_
    rotate_left
    · intro w' hw
      go_simp
      try with_reducible rfl
    simp only [Act.put, List.setIfInBounds_toArray, List.set_cons_zero, List.set_cons_succ]
    refine hs_take (i := 11) (d := some 34) (v := ?_) rfl (by kernel_rfl) (by kernel_rfl) (by kernel_rfl) (by rfl) ?_ hS rfl ?_
    rotate_left
    · intro w' hw
      go_simp
      try with_reducible rfl
    simp only [Act.put, List.setIfInBounds_toArray, List.set_cons_zero, List.set_cons_succ]
    refine hs_take (i := 12) (d := some 3) (v := ?_) rfl (by kernel_rfl) (by kernel_rfl) (by kernel_rfl) (by rfl) ?_ hS rfl ?_
    rotate_left
    · intro w' hw
      go_simp
      try with_reducible rfl
    simp only [Act.put, List.setIfInBounds_toArray, List.set_cons_zero, List.set_cons_succ]
    refine hs_take (i := 13) (d := some 4) (v := ?_) rfl (by kernel_rfl) (by kernel_rfl) (by kernel_rfl) (by rfl) ?_ hS rfl ?_
    rotate_left
    · intro w' hw
      go_simp
      try with_reducible rfl
    simp only [Act.put, List.setIfInBounds_toArray, List.set_cons_zero, List.set_cons_succ]
    refine hs_done (by kernel_rfl) ?_
    go_wp2
    go_ret
    rw [HR.out]
    exact ⟨rfl, hB8.trans (hB9.mono hB8.size)⟩
end Go.Proofs.YtfkchnjbbbhmjaaGreat
namespace Go.Proofs.YtfkchnjbbbhmjaaGreat.Ty
open Go.RowKit
open Tal
/-- an area with a greater turn is the journal's: area, turn, records -/
def stepF (r : Int × Int × List (List Int)) (area : Int) (bs : List Int) : Int × Int × List (List Int) := if r.2.1 < turnW (framesW bs) then (area, turnW (framesW bs), recsW (framesW bs)) else r
def findK (M : Mt) : Nat → Int × Int × List (List Int)
  | 0 => (1, 0, [])
  | k + 1 => stepF (findK M k) (k : Int) (M.read (k : Int))
structure FoundOk (r : Int × Int × List (List Int)) : Prop where
  a0 : 0 ≤ r.1
  a1 : r.1 ≤ 1
  t0 : 0 ≤ r.2.1
  t1 : r.2.1 ≤ 1099511627776
theorem findK_ok {M : Mt} (h : M.ok) : ∀ k, k ≤ 2 → FoundOk (findK M k)
  | 0, _ => ⟨by simp [findK], by simp [findK], by simp [findK], by simp [findK]⟩
  | k + 1, hk => by
    have ih := findK_ok h k (by omega)
    have h1 := turnW_ge (framesW (M.read (k : Int))) (fun f hf => (frames_mem (Mt.read_ok h (k : Int)).1 f hf).2)
    unfold findK stepF
    split
    · exact ⟨by simp only; omega, by simp only; omega, by simp only; omega, by simp only; omega⟩
    · exact ih
theorem live_read2 {A : Nat → Prop} {w : World} {p : Nat} {M : Mt} (h : Live A w p M) (area : Int) :
    Calls Tryz.prog 41 #[.pointer (some ⟨p, 0, none⟩), .int .i64 area] w fun e w' => ∃ a cap, e = .returned (.tuple #[.slice a (M.read area).length cap, .int .i64 (M.fault area)]) ∧ RowAt w' a (M.read area) ∧ Below w.heap.size w w' ∧ (M.read area).length ≤ cap ∧ cap ≤ maxLen := by
  obtain ⟨t, rfl, h, k⟩ := h
  refine (tread_any t M area w h).mono ?_
  rintro e w' ⟨v, he, hw, hb⟩
  have hr := Mt.read_ok h.ok area
  have hm : (M.read area).length ≤ maxLen := by have := hr.2; unfold maxLen; omega
  rcases own_range hw with ⟨rfl, h0, _⟩ | ⟨g, cap, rfl, hb', hg, hn, hcm, hrr⟩
  · have e0 : M.read area = [] := List.eq_nil_of_length_eq_zero h0
    rw [e0]
    exact ⟨none, 0, he, ⟨by unfold maxLen; simp, by simp, .inl rfl⟩, hb, by simp, by unfold maxLen; omega⟩
  · exact ⟨_, cap, he, ⟨hm, hr.1, .inr ⟨g, 0, rfl, hg, hrr⟩⟩, hb, hn, hcm⟩
theorem ROwn.set {B : Nat} {w : World} {v : Value} {rs : List Rc} {q o : Nat} (h : ROwn B w v rs) (hq : q < B) (u : Value) : ROwn B (w.setCell ⟨q, o, none⟩ u) v rs := by
  have hg := gb_set w q o u
  have hv : v.ownBlock = none ∨ v.ownBlock ≠ some q := by
    cases hb : v.ownBlock with
    | none => exact .inl rfl
    | some g => right; intro e; cases e; have := (h.r.lt _ hb).1; omega
  refine ⟨h.r.kept hg hv, fun x hx => RowAt_gbo (h.rows x hx) hg (fun ad e1 e2 => ?_), h.len, fun x hx ad e => ?_⟩
  · cases e2; have := (h.off x hx ad e1).1; omega
  · exact ⟨(h.off x hx ad e).1, Nat.lt_of_lt_of_le (h.off x hx ad e).2.1 hg.size, (h.off x hx ad e).2.2⟩
theorem jat_new (w : World) (j : Jv) (h : j.q = w.heap.size) : JAt (w.alloc (.cells #[.pointer (some ⟨j.p, 0, none⟩), .int .i64 j.ar, .int .i64 j.tu, .int .i64 j.fs] 84)) j := by
  have h1 := range_new w #[.pointer (some ⟨j.p, 0, none⟩), .int .i64 j.ar, .int .i64 j.tu, .int .i64 j.fs] 84
  have h2 := there_new w #[.pointer (some ⟨j.p, 0, none⟩), .int .i64 j.ar, .int .i64 j.tu, .int .i64 j.fs] 84
  rw [← h] at h1 h2
  exact ⟨h1, h2⟩
set_option maxRecDepth 100000 in
set_option maxHeartbeats 8000000 in
theorem find_off (p : Nat) (M : Mt) (A : Nat → Prop) (w : World) (hT : Live A w p M) (hon : M.on = false) :
    Calls Tryz.prog 46 #[.pointer (some ⟨p, 0, none⟩)] w fun e w' => e = .returned (.tuple #[.pointer none, .slice none 0 0, .int .i64 150]) ∧ Below w.heap.size w w' := by
  have cC := live_counts hT
  have hf : M.fault 0 = 150 := by unfold Mt.fault; rw [if_pos (.inl rfl), hon]; rfl
  have HON := hide hon
  clear hon
  go_enter Tryz.func46, Tryz.ntmps46
  go_wp2_with fail
  refine cC.mono ?_
  rintro e w1 ⟨rfl, hB1⟩
  clear cC
  go_wp2_with fail
  go_loopw [8, 23] (fun _ iv wr => iv = .int .i64 0 ∧ Below w.heap.size w wr) (fun _ _ _ => 0)
  case atStart => exact ⟨rfl, hB1.alloc hB1.size _⟩
  case round =>
    obtain ⟨rfl, hB⟩ := hrel
    have cR := live_read2 (hT.below hB) 0
    rw [hf] at cR
    go_wp2_with fail
    refine cR.mono ?_
    rintro e w2 ⟨ra, rc, rfl, -, hB2, -, -⟩
    clear cR
    go_wp2
    go_ret3
    exact ⟨rfl, hB.trans (hB2.mono hB.size)⟩
set_option maxRecDepth 100000 in
set_option maxHeartbeats 8000000 in
theorem find_on (p : Nat) (M : Mt) (A : Nat → Prop) (w : World) (hT : Live A w p M) (hon : M.on = true) (hrm : M.room ≤ 100000000) :
    Calls Tryz.prog 46 #[.pointer (some ⟨p, 0, none⟩)] w fun e w' => (∃ q v rs, e = .returned (.tuple #[.pointer (some ⟨q, 0, none⟩), v, .int .i64 0]) ∧ JAt w' ⟨q, p, (findK M 2).1, (findK M 2).2.1, M.fa⟩ ∧ ROwn w.heap.size w' v rs ∧ rs.map Rc.zs = (findK M 2).2.2 ∧ w.heap.size ≤ q ∧ rs.length ≤ 100000000 ∧ (∀ g, v.ownBlock = some g → g ≠ q) ∧ (∀ x ∈ rs, ∀ ad, x.a = some ad → ad.block ≠ q)) ∧ Below w.heap.size w w' := by
  have hok := hT.ok
  have cC := live_counts hT
  have hf : ∀ k : Nat, k < 2 → M.fault (k : Int) = 0 := fun k hk => by
    unfold Mt.fault
    rw [if_pos (by omega), hon]
    rfl
  have hrl : ∀ k : Int, (M.read k).length ≤ 100000000 := fun k => by
    have := hok.rm
    unfold Mt.read
    split
    · cases decide (k = 1) <;> simp only [Mt.get] <;> omega
    · simp
  clear hon
  go_enter Tryz.func46, Tryz.ntmps46
  go_wp2_with fail
  refine cC.mono ?_
  rintro e w1 ⟨rfl, hB1⟩
  clear cC
  obtain ⟨q, hq⟩ : ∃ q, Hid (w1.heap.size = q) := ⟨_, hide rfl⟩
  have hqw : w.heap.size ≤ q := by rw [← hq.out]; exact hB1.size
  have hJ0 := jat_new w1 ⟨q, p, 1, 0, M.fa⟩ hq.out.symm
  have hB2 : Below w.heap.size w (w1.alloc (.cells #[.pointer (some ⟨p, 0, none⟩), .int .i64 1, .int .i64 0, .int .i64 M.fa] 84)) := hB1.alloc hB1.size _
  have hqs : q < (w1.alloc (.cells #[.pointer (some ⟨p, 0, none⟩), .int .i64 1, .int .i64 0, .int .i64 M.fa] 84)).heap.size := by rw [← hq.out]; simp
  go_wp2_with fail
  rw [hq.out]
  go_loopw [8, 23] (fun v iv wr => ∃ (k : Nat) (ar tu : Int) (rs : List Rc), k ≤ 2 ∧ iv = .int .i64 (k : Int) ∧ JAt wr ⟨q, p, ar, tu, M.fa⟩ ∧ ROwn (q + 1) wr v rs ∧ rs.length ≤ 100000000 ∧ Below w.heap.size w wr ∧ q < wr.heap.size ∧ Hid (findK M k = (ar, tu, rs.map Rc.zs))) (fun _ iv _ => 2 - (intOf iv).toNat)
  case atStart => exact ⟨0, 1, 0, [], by omega, rfl, hJ0, ROwn.nil _ _, by simp, hB2, hqs, hide rfl⟩
  case round =>
    clear hJ0 hB2 hqs
    obtain ⟨k, ar, tu, rs, hk, rfl, hJ, hW, hrn, hB, hqs, hF⟩ := hrel
    by_cases hlt : k < 2
    · have hkI : (k : Int) < 2 := by omega
      have cR := live_read2 (hT.below hB) (k : Int)
      rw [hf k hlt] at cR
      have hbl := hrl (k : Int)
      have hst : Hid (findK M (k + 1) = stepF (ar, tu, rs.map Rc.zs) (k : Int) (M.read (k : Int))) := hide (by rw [← hF.out]; rfl)
      obtain ⟨bs, hbs⟩ : ∃ bs, Hid (M.read (k : Int) = bs) := ⟨_, hide rfl⟩
      rw [hbs.out] at cR hbl hst
      go_wp2_with fail
      refine cR.mono ?_
      rintro e w2 ⟨ra, rc, rfl, hrow, hB2, hlc, hcm⟩
      clear cR
      have cN := contents_any ra rc bs w2 hrow hlc hcm hbl
      obtain ⟨tn, htn⟩ : ∃ tn, Hid (turnW (framesW bs) = tn) := ⟨_, hide rfl⟩
      rw [htn.out] at cN
      go_wp2_with fail
      refine cN.mono ?_
      rintro e w3 ⟨⟨v3, rs3, rfl, hW3, hz3, hl3⟩, hB3⟩
      clear cN
      have hB23 : Below wr.heap.size wr w3 := hB2.trans (hB3.mono hB2.size)
      have hJ3 := hJ.below hB23
      have x2 := hJ3.cell 2 rfl
      by_cases hgt : tu < tn
      · have x1 := hJ3.cell 1 rfl
        have f1 : w3.frozen? ⟨q, 1, none⟩ = false := by have := (hJ3.th 1 (by omega)).2; rwa [Nat.zero_add] at this
        have f2 : w3.frozen? ⟨q, 2, none⟩ = false := by have := (hJ3.th 2 (by omega)).2; rwa [Nat.zero_add] at this
        have hJ4 := hJ3.turned (k : Int) tn
        have hW4 := ((hW3.lower (show q + 1 ≤ w2.heap.size by have := hB2.size; omega)).set (q := q) (o := 1) (by omega) (.int .i64 (k : Int))).set (q := q) (o := 2) (by omega) (.int .i64 tn)
        have hB4 : Below w.heap.size w ((w3.setCell ⟨q, 1, none⟩ (.int .i64 (k : Int))).setCell ⟨q, 2, none⟩ (.int .i64 tn)) :=
          ((hB.trans (hB23.mono hB.size)).grown (gb_set w3 q 1 (.int .i64 (k : Int))) (Nat.le_trans hB.size hB23.size) (fun g e => by cases e; exact hqw)).grown (gb_set _ q 2 (.int .i64 tn)) (by have := hB23.size; have := hB.size; simp; omega) (fun g e => by cases e; exact hqw)
        have hq4 : q < ((w3.setCell ⟨q, 1, none⟩ (.int .i64 (k : Int))).setCell ⟨q, 2, none⟩ (.int .i64 tn)).heap.size := by have := hB23.size; simp; omega
        have hst4 : Hid (findK M (k + 1) = ((k : Int), tn, rs3.map Rc.zs)) := hide (by rw [hst.out]; unfold stepF; rw [htn.out, if_pos hgt, hz3])
        clear hW3 hJ3 hW hJ
        go_wp2
        go_roundw
        case rel => exact ⟨k + 1, (k : Int), tn, rs3, by omega, by go_num, hJ4, hW4, by omega, hB4, hq4, hst4⟩
        case measure => simp [intOf]; omega
      · have hst4 : Hid (findK M (k + 1) = (ar, tu, rs.map Rc.zs)) := hide (by rw [hst.out]; unfold stepF; rw [htn.out, if_neg hgt])
        have hW4 := hW.below hB23
        have hq4 : q < w3.heap.size := by have := hB23.size; omega
        have hB4 := hB.trans (hB23.mono hB.size)
        clear hW3 hW hJ
        go_wp2
        go_roundw
        case rel => exact ⟨k + 1, ar, tu, rs, by omega, by go_num, hJ3, hW4, hrn, hB4, hq4, hst4⟩
        case measure => simp [intOf]; omega
    · obtain rfl : k = 2 := by omega
      have e1 := hF.out
      have HJ : Hid (JAt wr ⟨q, p, (findK M 2).1, (findK M 2).2.1, M.fa⟩) := hide (by rw [e1]; exact hJ)
      have HZ : Hid (rs.map Rc.zs = (findK M 2).2.2) := hide (by rw [e1])
      clear e1 hF hJ
      go_wp2
      go_ret3
      exact ⟨⟨q, _, rs, rfl, HJ.out, hW.lower (by omega), HZ.out, hqw, hrn, fun g e => by have := (hW.r.lt g e).1; omega, fun x hx ad e => by have := (hW.off x hx ad e).1; omega⟩, hB⟩
end Go.Proofs.YtfkchnjbbbhmjaaGreat.Ty
namespace Go.Proofs.YtfkchnjbbbhmjaaGreat.Ty
open Go.RowKit
open Tal
def zR (zss : List (List Int)) : List Rc := zss.map (fun z => ⟨none, 0, z⟩)
theorem zR_zs (zss : List (List Int)) : (zR zss).map Rc.zs = zss := by
  unfold zR
  rw [List.map_map]
  exact List.map_id zss
theorem takesE_zs (on : Bool) {rs ss : List Rc} (h : rs.map Rc.zs = ss.map Rc.zs) : takesE on rs = takesE on ss := by
  have key : ∀ {rs ss : List Rc}, rs.map Rc.zs = ss.map Rc.zs → (∀ r ∈ rs, r.zs.length ≤ 4194304) → ∀ r ∈ ss, r.zs.length ≤ 4194304 := fun {rs ss} h hr r hm => by
    have : r.zs ∈ rs.map Rc.zs := by rw [h]; exact List.mem_map.2 ⟨r, hm, rfl⟩
    obtain ⟨x, hx, e⟩ := List.mem_map.1 this
    rw [← e]; exact hr x hx
  unfold takesE
  by_cases h1 : ∀ r ∈ rs, r.zs.length ≤ 4194304
  · rw [if_pos h1, if_pos (key h h1)]
  · rw [if_neg h1, if_neg (fun h2 => h1 (key h.symm h2))]
theorem layM_zs (M : Mt) (j : Jv) {rs ss : List Rc} (h : rs.map Rc.zs = ss.map Rc.zs) : layM M j rs = layM M j ss := by
  unfold layM
  rw [takesE_zs _ h, h]
/-- what Open comes to: the error, the tape, the journal -/
def openL (M : Mt) (q p : Nat) : LayR := layM M ⟨q, p, (findK M 2).1, (findK M 2).2.1, M.fa⟩ (zR (findK M 2).2.2)
theorem flat_val (rs : List Rc) : rs.flatMap Rc.cells = rs.map Rc.val := by
  induction rs with
  | nil => rfl
  | cons r rs ih => rw [List.flatMap_cons, ih]; rfl
theorem ROwn.off' {B : Nat} {w w' : World} {v : Value} {rs : List Rc} {F : Nat → Prop} (h : ROwn B w v rs) (ho : Off F w w') (h1 : ∀ g, v.ownBlock = some g → ¬ F g) (h2 : ∀ x ∈ rs, ∀ ad, x.a = some ad → ¬ F ad.block) : ROwn B w' v rs := by
  refine ⟨owns_at h.r (fun g q => ho.2 g (h.r.lt g q).2 (h1 g q)), fun x hx => ?_, h.len, fun x hx ad q => ⟨(h.off x hx ad q).1, Nat.lt_of_lt_of_le (h.off x hx ad q).2.1 ho.size, (h.off x hx ad q).2.2⟩⟩
  have hr := h.rows x hx
  refine ⟨hr.1, hr.2.1, ?_⟩
  rcases hr.2.2 with q | ⟨b, off, q, hb, hrr⟩
  · exact .inl q
  · exact .inr ⟨b, off, q, Nat.lt_of_lt_of_le hb ho.size, range_at hrr (ho.2 b hb (h2 x hx _ q))⟩
/-- what is there behind Open -/
structure Opened (A : Nat → Prop) (w w' : World) (p q : Nat) (M : Mt) (L : LayR) (zss : List (List Int)) (e : Ending) (A2 : Nat → Prop) : Prop where
  up : ∀ b, A b → A2 b
  own : A2 q
  lt : ∀ b, A2 b → b < w'.heap.size
  low : ∀ b, A2 b → A b ∨ w.heap.size ≤ b
  off : Off (fun b => ¬ A b) w w'
  q0 : w.heap.size ≤ q
  live : Live A2 w' p L.M
  said : (L.e ≠ 0 ∧ e = .returned (.tuple #[.pointer none, .slice none 0 0, .int .i64 L.e])) ∨
    (L.e = 0 ∧ JAt w' L.j ∧ ∃ v rs, e = .returned (.tuple #[.pointer (some ⟨q, 0, none⟩), v, .int .i64 0]) ∧ ROwn w.heap.size w' v rs ∧ rs.map Rc.zs = zss ∧ rs.length ≤ 100000000 ∧ (∀ x ∈ rs, ∀ ad, x.a = some ad → A2 ad.block) ∧ ∀ g, v.ownBlock = some g → A2 g)
set_option maxRecDepth 100000 in
set_option maxHeartbeats 8000000 in
theorem open_off (p : Nat) (M : Mt) (A : Nat → Prop) (w : World) (hT : Live A w p M) (hon : M.on = false) :
    Calls Tryz.prog 19 #[.pointer (some ⟨p, 0, none⟩)] w fun e w' => e = .returned (.tuple #[.pointer none, .slice none 0 0, .int .i64 150]) ∧ Below w.heap.size w w' := by
  have cF := find_off p M A w hT hon
  clear hon
  go_enter Tryz.func19, Tryz.ntmps19
  go_wp2_with fail
  refine cF.mono ?_
  rintro e w1 ⟨rfl, hB1⟩
  clear cF
  go_wp2
  go_ret3
  exact ⟨rfl, hB1⟩
set_option maxRecDepth 100000 in
set_option maxHeartbeats 8000000 in
theorem open_on (p : Nat) (M : Mt) (A : Nat → Prop) (w : World) (hT : Live A w p M) (hA : ∀ b, A b → b < w.heap.size) (hon : M.on = true) (hrm : M.room ≤ 100000000) :
    Calls Tryz.prog 19 #[.pointer (some ⟨p, 0, none⟩)] w fun e w' => ∃ q A2, Opened A w w' p q M (openL M q p) (findK M 2).2.2 e A2 := by
  have cF := find_on p M A w hT hon hrm
  have hfk := findK_ok hT.ok 2 (by omega)
  unfold openL
  generalize findK M 2 = fk at *
  obtain ⟨far, ftu, frz⟩ := fk
  simp only at cF
  clear hon
  go_enter Tryz.func19, Tryz.ntmps19
  go_wp2_with fail
  refine cF.mono ?_
  rintro e w1 ⟨⟨q, v, rs, rfl, hJ, hW, hzs, hq0, hrn, hvq, hxq⟩, hB1⟩
  clear cF
  obtain ⟨ra, rc, rfl, hR, hrc, hrb⟩ := hW.recs hrn
  have hrow : RowOf Rc.cells w1 ra rs := by
    rcases hR.at0 with h0 | ⟨b, off, e1, e2, e3⟩
    · exact .inl h0
    · exact .inr ⟨b, off, e1, e2, by rw [flat_val]; exact e3⟩
  have hT1 := hT.widen hB1
  have hA1 := More.lt (w1 := w1) hA hB1.size
  have hAq : More A w w1 q := .inr ⟨hq0, hJ.lt⟩
  have hEL : Hid (layM M ⟨q, p, far, ftu, M.fa⟩ rs = layM M ⟨q, p, far, ftu, M.fa⟩ (zR frz)) := hide (layM_zs M _ (by rw [hzs, zR_zs]))
  have cL := jlay_any ⟨q, p, far, ftu, M.fa⟩ M (More A w w1) ra rc rs w1 hJ ⟨hfk.a0, hfk.a1, hfk.t0, hfk.t1⟩ hT1 hA1 hAq hrow (by unfold maxLen; omega)
    (.inr (fun x hx => ⟨.inr (hrb x hx), hvq x.block (by simp [hx, Value.ownBlock])⟩)) (fun r hr => ⟨hW.rows r hr, .inr (fun x hx => .inr ⟨(hW.off r hr x hx).1, (hW.off r hr x hx).2.1⟩)⟩)
  rw [hEL.out] at cL
  unfold jptr at cL
  simp only at cL
  obtain ⟨L, hL⟩ : ∃ L, Hid (layM M ⟨q, p, far, ftu, M.fa⟩ (zR frz) = L) := ⟨_, hide rfl⟩
  rw [hL.out] at cL
  clear hEL
  have HR := hide (And.intro hJ (And.intro hW (And.intro hR (And.intro hrow hrb))))
  have hoA : ∀ {w2 : World}, Off (fun b => b = q ∨ ¬ More A w w1 b) w1 w2 → Off (fun b => ¬ A b) w w2 := fun h => (Off.of_below hB1).trans h (fun b hb hq => by
    rcases hq with hq | hq
    · intro q1; subst hq; omega
    · exact fun q1 => hq (.inl q1))
  clear hT hT1 hJ hW hR hrow hrb
  by_cases hLe : L.e = 0
  · rw [hLe] at cL
    go_wp2_with fail
    refine cL.mono ?_
    rintro e w2 ⟨rfl, hT2, hJ2, hO2⟩
    clear cL
    obtain ⟨kJ, kW, kR, kr, kb⟩ := HR.out
    have hW2 : ROwn w.heap.size w2 (.slice ra rs.length rc) rs := kW.off' hO2 (fun g e1 e2 => by
      rcases e2 with e2 | e2
      · exact hvq g e1 e2
      · exact e2 (.inr (kW.r.lt g e1))) (fun x hx ad e1 e2 => by
      rcases e2 with e2 | e2
      · exact hxq x hx ad e1 e2
      · exact e2 (.inr ⟨(kW.off x hx ad e1).1, (kW.off x hx ad e1).2.1⟩))
    have HF : Hid (Opened A w w2 p q M L frz (.returned (.tuple #[.pointer (some ⟨q, 0, none⟩), .slice ra rs.length rc, .int .i64 0])) (More A w w1)) := hide
      ⟨fun b h => .inl h, hAq, fun b h => Nat.lt_of_lt_of_le (hA1 b h) hO2.size, fun b h => h.imp id (fun h => h.1), hoA hO2, hq0, hT2, .inr ⟨hLe, hJ2, _, rs, rfl, hW2, hzs, hrn, fun x hx ad e1 => .inr ⟨(kW.off x hx ad e1).1, (kW.off x hx ad e1).2.1⟩, fun g e1 => .inr (kW.r.lt g e1)⟩⟩
    clear kJ kW kR kr kb hW2 hT2 hJ2 hO2
    go_wp2
    go_ret3
    exact ⟨q, _, by rw [hL.out]; exact HF.out⟩
  · have n0 : (L.e != 0) = true := bne_iff_ne.2 hLe
    go_wp2_with fail
    refine cL.mono ?_
    rintro e w2 ⟨rfl, hT2, hJ2, hO2⟩
    clear cL
    have HF : Hid (Opened A w w2 p q M L frz (.returned (.tuple #[.pointer none, .slice none 0 0, .int .i64 L.e])) (More A w w1)) := hide
      ⟨fun b h => .inl h, hAq, fun b h => Nat.lt_of_lt_of_le (hA1 b h) hO2.size, fun b h => h.imp id (fun h => h.1), hoA hO2, hq0, hT2, .inl ⟨hLe, rfl⟩⟩
    clear hT2 hJ2 hO2 hLe
    go_wp2
    go_ret3
    exact ⟨q, _, by rw [hL.out]; exact HF.out⟩
end Go.Proofs.YtfkchnjbbbhmjaaGreat.Ty
namespace Go.Proofs.YtfkchnjbbbhmjaaGreat
open Go.RowKit
set_option maxRecDepth 100000 in
set_option maxHeartbeats 4000000 in
theorem jsure_any (j : Jv) (M : Mt) (A : Nat → Prop) (w : World) (h : JAt w j) (hT : Live A w j.p M) : Calls Tryz.prog 13 #[jptr j] w fun e w' => e = .returned (.bool (decide (M.sureOf j.ar = M.jbytes j.ar))) ∧ Below w.heap.size w w' := by
  obtain ⟨w8, hw8⟩ : ∃ w8, w.drew = w8 := ⟨_, rfl⟩
  have hB8 : Below w.heap.size w w8 := by rw [← hw8]; exact (Below.refl _ _).drew
  have cM := jmade_any j w8 (h.below hB8)
  have cS := live_sure (hT.below hB8) j.ar
  have cB := jbytes_any j M A w8 (h.below hB8) (hT.below hB8)
  have k0 : ∀ w', Below w8.heap.size w8 w' → w'.cell? ⟨j.q, 0, none⟩ = some (.pointer (some ⟨j.p, 0, none⟩)) := fun w' hw => (h.below (hB8.trans (hw.mono hB8.size))).cell 0 rfl
  have k1 : ∀ w', Below w8.heap.size w8 w' → w'.cell? ⟨j.q, 1, none⟩ = some (.int .i64 j.ar) := fun w' hw => (h.below (hB8.trans (hw.mono hB8.size))).cell 1 rfl
  have eS : (if j.ar = 0 then (M.sa : Int) else if j.ar = 1 then (M.sb : Int) else 0) = M.sureOf j.ar := rfl
  rw [eS] at cS
  obtain ⟨su, hsu⟩ : ∃ su, M.sureOf j.ar = su := ⟨_, rfl⟩
  obtain ⟨by', hby⟩ : ∃ by', M.jbytes j.ar = by' := ⟨_, rfl⟩
  rw [hsu] at cS
  rw [hby] at cB
  rw [hsu, hby]
  obtain ⟨bb, hbb'⟩ : ∃ bb, Hid (decide (su = by') = bb) := ⟨_, hide rfl⟩
  have hbb : (su == by') = bb := by rw [← hbb'.out]; rfl
  rw [hbb'.out]
  unfold jptr at *
  clear eS hsu hby h hT
  go_enter Tryz.func13, Tryz.ntmps13
  go_wp2_with fail
  refine hs_begin (S := (Below w8.heap.size w8)) 17 rfl (by kernel_rfl) ?_
  rw [hw8]
  clear hw8
  have hS : (Below w8.heap.size w8) w8 := Below.refl _ _
  refine hs_take (i := 0) (d := some 3) (v := ?_) rfl (by kernel_rfl) (by kernel_rfl) (by kernel_rfl) (by rfl) ?_ hS rfl ?_
  rotate_left
  · intro w' hw
    go_simp
    try with_reducible rfl
  simp only [Act.put, List.setIfInBounds_toArray, List.set_cons_zero, List.set_cons_succ]
  refine hs_call (i := 1) (d := some 4) rfl (by kernel_rfl) (by rfl) (by go_simp; first | done | exact ⟨rfl, rfl⟩ | with_reducible rfl) rfl ?_
  refine (cM).mono ?_
  rintro e' wq ⟨rfl, hx⟩
  have hS : Below w8.heap.size w8 wq := by rw [hx]; exact hS
  refine ⟨_, rfl, hS, ?_⟩
  simp only [Act.put, List.setIfInBounds_toArray, List.set_cons_zero, List.set_cons_succ]
  obtain rfl := hx.symm
  clear hx
  refine hs_take (i := 2) (d := some 5) (v := ?_) rfl (by kernel_rfl) (by kernel_rfl) (by kernel_rfl) (by rfl) ?_ hS rfl ?_
  rotate_left
  · intro w' hw
    go_simp
    try with_reducible rfl
  simp only [Act.put, List.setIfInBounds_toArray, List.set_cons_zero, List.set_cons_succ]
  refine hs_take (i := 3) (d := some 6) (v := ?_) rfl (by kernel_rfl) (by kernel_rfl) (by kernel_rfl) (by rfl) ?_ hS rfl ?_
  rotate_left
  · intro w' hw
    go_simp
    try with_reducible rfl
  simp only [Act.put, List.setIfInBounds_toArray, List.set_cons_zero, List.set_cons_succ]
  refine hs_take (i := 4) (d := some 7) (v := ?_) rfl (by kernel_rfl) (by kernel_rfl) (by kernel_rfl) (by rfl) ?_ hS rfl ?_
  rotate_left
  · intro w' hw
    go_simp
    try with_reducible rfl
  simp only [Act.put, List.setIfInBounds_toArray, List.set_cons_zero, List.set_cons_succ]
  refine hs_take (i := 5) (d := some 8) (v := ?_) rfl (by kernel_rfl) (by kernel_rfl) (by kernel_rfl) (by rfl) ?_ hS rfl ?_
  rotate_left
  · intro w' hw
    go_simp
    try with_reducible rfl
  simp only [Act.put, List.setIfInBounds_toArray, List.set_cons_zero, List.set_cons_succ]
  refine hs_take (i := 6) (d := some 9) (v := ?_) rfl (by kernel_rfl) (by kernel_rfl) (by kernel_rfl) (by rfl) ?_ hS rfl ?_
  rotate_left
  · intro w' hw
    have := k0 w' hw
    go_simp
    try with_reducible rfl
  simp only [Act.put, List.setIfInBounds_toArray, List.set_cons_zero, List.set_cons_succ]
  refine hs_take (i := 7) (d := some 10) (v := ?_) rfl (by kernel_rfl) (by kernel_rfl) (by kernel_rfl) (by rfl) ?_ hS rfl ?_
  rotate_left
  · intro w' hw
    go_simp
    try with_reducible rfl
  simp only [Act.put, List.setIfInBounds_toArray, List.set_cons_zero, List.set_cons_succ]
  refine hs_take (i := 8) (d := some 11) (v := ?_) rfl (by kernel_rfl) (by kernel_rfl) (by kernel_rfl) (by rfl) ?_ hS rfl ?_
  rotate_left
  · intro w' hw
    go_simp
    try with_reducible rfl
  simp only [Act.put, List.setIfInBounds_toArray, List.set_cons_zero, List.set_cons_succ]
  refine hs_take (i := 9) (d := some 12) (v := ?_) rfl (by kernel_rfl) (by kernel_rfl) (by kernel_rfl) (by rfl) ?_ hS rfl ?_
  rotate_left
  · intro w' hw
    go_simp
    try with_reducible rfl
  simp only [Act.put, List.setIfInBounds_toArray, List.set_cons_zero, List.set_cons_succ]
  refine hs_take (i := 10) (d := some 13) (v := ?_) rfl (by kernel_rfl) (by kernel_rfl) (by kernel_rfl) (by rfl) ?_ hS rfl ?_
  rotate_left
  · intro w' hw
    have := k1 w' hw
    go_simp
    try with_reducible rfl
  simp only [Act.put, List.setIfInBounds_toArray, List.set_cons_zero, List.set_cons_succ]
  refine hs_take (i := 12) (d := some 15) (v := ?_) rfl (by kernel_rfl) (by kernel_rfl) (by kernel_rfl) (by rfl) ?_ hS rfl ?_
  rotate_left
  · intro w' hw
    go_simp
    try with_reducible rfl
  simp only [Act.put, List.setIfInBounds_toArray, List.set_cons_zero, List.set_cons_succ]
  refine hs_call (i := 11) (d := some 14) rfl (by kernel_rfl) (by rfl) (by go_simp; first | done | exact ⟨rfl, rfl⟩ | with_reducible rfl) rfl ?_
  refine (cS).mono ?_
  rintro e' wq ⟨rfl, hx⟩
  have hS : Below w8.heap.size w8 wq := by rw [hx]; exact hS
  refine ⟨_, rfl, hS, ?_⟩
  simp only [Act.put, List.setIfInBounds_toArray, List.set_cons_zero, List.set_cons_succ]
  obtain rfl := hx.symm
  clear hx
  refine hs_call (i := 13) (d := some 16) rfl (by kernel_rfl) (by rfl) (by go_simp; first | done | exact ⟨rfl, rfl⟩ | with_reducible rfl) rfl ?_
  refine (cB).mono ?_
  rintro e' w9 ⟨rfl, hB9⟩
  have hS : Below w8.heap.size w8 w9 := hB9
  refine ⟨_, rfl, hS, ?_⟩
  simp only [Act.put, List.setIfInBounds_toArray, List.set_cons_zero, List.set_cons_succ]
  refine hs_take (i := 14) (d := some 17) (v := .bool bb) rfl (by kernel_rfl) (by kernel_rfl) (by kernel_rfl) (by rfl) (fun w' hw => by have := hbb; go_simp) hS rfl ?_
  simp only [Act.put, List.setIfInBounds_toArray, List.set_cons_zero, List.set_cons_succ]
  refine hs_take (i := 15) (d := some 18) (v := .bool bb) rfl (by kernel_rfl) (by kernel_rfl) (by kernel_rfl) (by rfl) (fun w' hw => by go_simp) hS rfl ?_
  simp only [Act.put, List.setIfInBounds_toArray, List.set_cons_zero, List.set_cons_succ]
  refine hs_take (i := 16) (d := some 2) (v := .bool bb) rfl (by kernel_rfl) (by kernel_rfl) (by kernel_rfl) (by rfl) (fun w' hw => by go_simp) hS rfl ?_
  simp only [Act.put, List.setIfInBounds_toArray, List.set_cons_zero, List.set_cons_succ]
  refine hs_done (by kernel_rfl) ?_
  go_wp2
  go_ret
  exact ⟨rfl, hB8.trans (hB9.mono hB8.size)⟩
end Go.Proofs.YtfkchnjbbbhmjaaGreat
namespace Go.Proofs.YtfkchnjbbbhmjaaGreat
open Go.RowKit
set_option maxRecDepth 100000 in
set_option maxHeartbeats 2000000 in
theorem rread2 (t : Rv) (M : Mt) (area : Int) (w : World) (h : RefAt w t M) :
    Calls Tryz.prog 42 #[rptr t, .int .i64 area] w fun e w' => ∃ a cap, e = .returned (.tuple #[.slice a (M.read area).length cap, .int .i64 (M.fault area)]) ∧ RowAt w' a (M.read area) ∧ Below w.heap.size w w' ∧ (M.read area).length ≤ cap ∧ cap ≤ maxLen := by
  have c1 := rfault_any t M area w h
  by_cases hfa : M.fault area = 0
  · have hx := (Mt.fault_ok hfa).1
    have hrd : M.read area = M.get (decide (area = 1)) := if_pos hfa
    rw [hrd, hfa]
    rw [hfa] at c1
    have hb1 : Below w.heap.size w (w.alloc (.cells #[] 5)) := (Below.refl _ _).alloc (Nat.le_refl _) _
    have h1 := (h.below hb1).cell 1 rfl
    have h2 := (h.below hb1).cell 2 rfl
    obtain ⟨i1, hi1, hiz, his, hib⟩ := info_parts info8
    have hb1 : Below w.heap.size w (w.alloc (.cells #[] 5)) := (Below.refl _ _).alloc (Nat.le_refl _) _
    have hown1 := owns_new0 w
    have hr := h.ok.rm
    have hl := h.ok.rl
    have fin : ∀ (v2 : Value) (w2 : World) (zs : List Int), w2.ownsRow w.heap.size 5 1 v2 zs.length (v8 zs) → zs.length ≤ 1073741824 → (∀ z ∈ zs, 0 ≤ z ∧ z < 256) → Below w.heap.size w w2 → ∃ a cap, v2 = .slice a zs.length cap ∧ RowAt w2 a zs ∧ Below w.heap.size w w2 ∧ zs.length ≤ cap ∧ cap ≤ maxLen := fun v2 w2 zs k1 k2 k3 k4 => by
      obtain ⟨a, cap, e1, f1, f2, e2⟩ := own_bytes k1 k3 (by unfold maxLen; omega)
      exact ⟨a, cap, e1, e2, k4, f1, f2⟩
    unfold rptr at *
    rcases hx with rfl | rfl
    · have hsrc := (h.ra.row.below hb1).src t.ca
      have hz := h.ok.za
      rw [show M.get (decide ((0 : Int) = 1)) = M.a from rfl]
      clear h hfa hrd
      go_enter Tryz.func42, Tryz.ntmps42
      go_wp2_with fail
      refine c1.mono ?_
      rintro e w' ⟨rfl, hw⟩
      obtain rfl := hw.symm
      clear c1 hw
      go_wp2_with (at_builtin; refine wpList_append_own_src _ rfl _ _ 35 35 rfl w.heap.size 5 i1 (.int .u8 0) 1 1 Tryz.underlying35 hi1 hiz his hib rfl _ 0 [] rfl hown1 (.slice t.aa M.a.length t.ca) M.a.length (v8 M.a) rfl hsrc ?c1 ?c2 ?c3 ?_)
      case c1 => unfold maxLen; omega
      case c2 => omega
      case c3 => exact hb1.size
      intro v2 w2 hown2 hgrow2
      have hb2 : Below w.heap.size w w2 := hb1.grown hgrow2 hb1.size (fun k hk => (hown1.lt k hk).1)
      obtain ⟨a2, c2, e1, e2, e3⟩ := fin v2 w2 M.a (by simpa using hown2) (by omega) hz hb2
      have HF := hide (And.intro e2 e3)
      subst e1
      clear hown2 hgrow2 hb2 fin e2 e3 hsrc hown1
      go_wp2_with fail
      go_ret2
      exact ⟨_, _, rfl, HF.out⟩
    · have hsrc := (h.rb.row.below hb1).src t.cb
      have hz := h.ok.zb
      rw [show M.get (decide ((1 : Int) = 1)) = M.b from rfl]
      clear h hfa hrd
      go_enter Tryz.func42, Tryz.ntmps42
      go_wp2_with fail
      refine c1.mono ?_
      rintro e w' ⟨rfl, hw⟩
      obtain rfl := hw.symm
      clear c1 hw
      go_wp2_with (at_builtin; refine wpList_append_own_src _ rfl _ _ 35 35 rfl w.heap.size 5 i1 (.int .u8 0) 1 1 Tryz.underlying35 hi1 hiz his hib rfl _ 0 [] rfl hown1 (.slice t.ab M.b.length t.cb) M.b.length (v8 M.b) rfl hsrc ?d1 ?d2 ?d3 ?_)
      case d1 => unfold maxLen; omega
      case d2 => omega
      case d3 => exact hb1.size
      intro v2 w2 hown2 hgrow2
      have hb2 : Below w.heap.size w w2 := hb1.grown hgrow2 hb1.size (fun k hk => (hown1.lt k hk).1)
      obtain ⟨a2, c2, e1, e2, e3⟩ := fin v2 w2 M.b (by simpa using hown2) (by omega) hz hb2
      have HF := hide (And.intro e2 e3)
      subst e1
      clear hown2 hgrow2 hb2 fin e2 e3 hsrc hown1
      go_wp2_with fail
      go_ret2
      exact ⟨_, _, rfl, HF.out⟩
  · have hr : M.read area = [] := if_neg hfa
    rw [hr]
    obtain ⟨z, hz⟩ : ∃ z, Hid (M.fault area = z) := ⟨_, hide rfl⟩
    rw [hz.out] at c1 hfa ⊢
    have hz0 : (z == 0) = false := by simpa using hfa
    have HP : Hid (RowAt w none [] ∧ Below w.heap.size w w ∧ ([] : List Int).length ≤ 0 ∧ 0 ≤ maxLen) := hide ⟨⟨by unfold maxLen; simp, by simp, .inl rfl⟩, Below.refl _ _, by simp, by unfold maxLen; omega⟩
    unfold rptr at *
    clear h hr hfa hz
    go_enter Tryz.func42, Tryz.ntmps42
    go_wp2_with fail
    refine c1.mono ?_
    rintro e w' ⟨rfl, hw⟩
    obtain rfl := hw.symm
    clear c1 hw
    go_wp2_with fail
    go_ret2
    exact ⟨_, _, rfl, HP.out⟩
/-- the document's tape at r; none of its blocks is one of A's -/
def RLive (A : Nat → Prop) (w : World) (r : Nat) (M : Mt) : Prop := ∃ t : Rv, t.r = r ∧ RefAt w t M ∧ ∀ b, t.own b → ¬ A b
theorem RLive.ok {A : Nat → Prop} {w : World} {r : Nat} {M : Mt} (h : RLive A w r M) : M.ok := by
  obtain ⟨t, -, h, -⟩ := h
  exact h.ok
theorem RLive.lt {A : Nat → Prop} {w : World} {r : Nat} {M : Mt} (h : RLive A w r M) : r < w.heap.size := by
  obtain ⟨t, rfl, h, -⟩ := h
  exact h.lt
theorem RLive.below {A : Nat → Prop} {w w' : World} {r : Nat} {M : Mt} (h : RLive A w r M) (hb : Below w.heap.size w w') : RLive A w' r M := by
  obtain ⟨t, e, h, k⟩ := h
  exact ⟨t, e, h.below hb, k⟩
theorem RLive.narrow {A A' : Nat → Prop} {w : World} {r : Nat} {M : Mt} (h : RLive A w r M) (hA : ∀ b, A' b → A b) : RLive A' w r M := by
  obtain ⟨t, e, h, k⟩ := h
  exact ⟨t, e, h, fun b q q1 => k b q (hA b q1)⟩
theorem RLive.widen {A : Nat → Prop} {w w1 : World} {r : Nat} {M : Mt} (h : RLive A w r M) (hb : Below w.heap.size w w1) : RLive (More A w w1) w1 r M := by
  obtain ⟨t, e, h, k⟩ := h
  refine ⟨t, e, h.below hb, fun b q q1 => ?_⟩
  rcases q1 with q1 | q1
  · exact k b q q1
  · have := h.own_lt q; omega
theorem RLive.off {A F : Nat → Prop} {w w' : World} {r : Nat} {M : Mt} (h : RLive A w r M) (ho : Off F w w') (hF : ∀ b, F b → A b) : RLive A w' r M := by
  obtain ⟨t, e, h, k⟩ := h
  exact ⟨t, e, h.off ho (fun b q q1 => k b q (hF b q1)), k⟩
theorem RLive.turn {A : Nat → Prop} {w w' : World} {t : Rv} {M' : Mt} (hk : ∀ b, t.own b → ¬ A b) (hA : ∀ b, A b → b < w.heap.size) (h : RTurned w w' t M') : RLive A w' t.r M' ∧ Off (fun b => b = t.r) w w' := by
  obtain ⟨t', e1, e2, e3, e4⟩ := h
  refine ⟨⟨t', e1, e2, fun b q q1 => ?_⟩, e3⟩
  rcases e4 b q with q2 | q2
  · exact hk b q2 q1
  · have := hA b q1; omega
section
variable {A : Nat → Prop} {w : World} {r : Nat} {M : Mt}
theorem rl_append (h : RLive A w r M) (hA : ∀ b, A b → b < w.heap.size) (area : Int) (a : Option Addr) (cap : Nat) (zs : List Int) (hz : RowAt w a zs) (hne : zs = [] ∨ ∀ x, a = some x → x.block ≠ r) :
    Calls Tryz.prog 30 #[.pointer (some ⟨r, 0, none⟩), .int .i64 area, .slice a zs.length cap] w fun e w' => e = .returned (.int .i64 (M.append area zs).1) ∧ RLive A w' r (M.append area zs).2 ∧ Off (fun b => b = r) w w' := by
  obtain ⟨t, rfl, h, k⟩ := h
  exact (rappend_any t M area a cap zs w h hz hne).mono fun e w' ⟨he, hw⟩ => ⟨he, RLive.turn k hA hw⟩
theorem rl_sync (h : RLive A w r M) (hA : ∀ b, A b → b < w.heap.size) (area : Int) :
    Calls Tryz.prog 63 #[.pointer (some ⟨r, 0, none⟩), .int .i64 area] w fun e w' => e = .returned (.int .i64 (M.sync area).1) ∧ RLive A w' r (M.sync area).2 ∧ Off (fun b => b = r) w w' := by
  obtain ⟨t, rfl, h, k⟩ := h
  exact (rsync_any t M area w h).mono fun e w' ⟨he, hw⟩ => ⟨he, RLive.turn k hA hw⟩
theorem rl_clear (h : RLive A w r M) (hA : ∀ b, A b → b < w.heap.size) (area : Int) :
    Calls Tryz.prog 32 #[.pointer (some ⟨r, 0, none⟩), .int .i64 area] w fun e w' => e = .returned (.int .i64 (M.empty area).1) ∧ RLive A w' r (M.empty area).2 ∧ Off (fun b => b = r) w w' := by
  obtain ⟨t, rfl, h, k⟩ := h
  exact (rclear_any t M area w h).mono fun e w' ⟨he, hw⟩ => ⟨he, RLive.turn k hA hw⟩
theorem rl_arm (h : RLive A w r M) (hA : ∀ b, A b → b < w.heap.size) (n keep : Int) (hn : n ≤ 9223372036854775807) :
    Calls Tryz.prog 27 #[.pointer (some ⟨r, 0, none⟩), .int .i64 n, .int .i64 keep] w fun e w' => e = .returned (.int .i64 (M.arm n keep).1) ∧ RLive A w' r (M.arm n keep).2 ∧ Off (fun b => b = r) w w' := by
  obtain ⟨t, rfl, h, k⟩ := h
  exact (rarm_any t M n keep w h hn).mono fun e w' ⟨he, hw⟩ => ⟨he, RLive.turn k hA hw⟩
theorem rl_fail (h : RLive A w r M) (hA : ∀ b, A b → b < w.heap.size) (keep : Int) :
    Calls Tryz.prog 28 #[.pointer (some ⟨r, 0, none⟩), .int .i64 keep] w fun e w' => e = .returned (.int .i64 (M.fail keep).1) ∧ RLive A w' r (M.fail keep).2 ∧ Off (fun b => b = r) w w' := by
  obtain ⟨t, rfl, h, k⟩ := h
  exact (rfail_any t M keep w h).mono fun e w' ⟨he, hw⟩ => ⟨he, RLive.turn k hA hw⟩
theorem rl_read (h : RLive A w r M) (area : Int) :
    Calls Tryz.prog 42 #[.pointer (some ⟨r, 0, none⟩), .int .i64 area] w fun e w' => ∃ a cap, e = .returned (.tuple #[.slice a (M.read area).length cap, .int .i64 (M.fault area)]) ∧ RowAt w' a (M.read area) ∧ Below w.heap.size w w' ∧ (M.read area).length ≤ cap ∧ cap ≤ maxLen := by
  obtain ⟨t, rfl, h, k⟩ := h
  exact rread2 t M area w h
theorem rl_sure (h : RLive A w r M) (area : Int) : Calls Tryz.prog 44 #[.pointer (some ⟨r, 0, none⟩), .int .i64 area] w fun e w' => e = .returned (.int .i64 (M.sureOf area)) ∧ w' = w := by
  obtain ⟨t, rfl, h, k⟩ := h
  exact rsure_any t M area w h
theorem RLive.dark (h : RLive A w r M) : w.cell? ⟨r, 5, none⟩ = some (.bool (!M.on)) := by
  obtain ⟨t, rfl, h, k⟩ := h
  exact h.cell 5 rfl
theorem RLive.fails (h : RLive A w r M) : w.cell? ⟨r, 10, none⟩ = some (.int .i64 M.fa) := by
  obtain ⟨t, rfl, h, k⟩ := h
  exact h.cell 10 rfl
end
end Go.Proofs.YtfkchnjbbbhmjaaGreat
namespace Go.Proofs.YtfkchnjbbbhmjaaGreat.Ty
open Go.RowKit
open Tal
set_option maxRecDepth 100000 in
set_option maxHeartbeats 4000000 in
theorem xframes2 (a : Option Addr) (cap : Nat) (bs : List Int) (w : World) (h : RowAt w a bs) (hc : bs.length ≤ cap) (hm : cap ≤ maxLen) (hl : bs.length ≤ 100000000) :
    Calls Tryz.prog 75 #[.slice a bs.length cap] w fun e w' => FramesJ w.heap.size (framesW bs) e w' ∧ Below w.heap.size w w' := by
  obtain ⟨i0, hi, hz0, hz1, hz2⟩ := info_parts info8
  obtain ⟨i1, hj, hj0, hj1, hj2⟩ := info_parts infoS
  go_enter Tryz.func75, Tryz.ntmps75
  go_wp2_with fail
  go_loopw [0, 4, 5] (fun b vk vr wr => ∃ (a : Option Addr) (cap : Nat) (cur : List Int) (fs : List Fr) (rs : List Rc), b = .slice a cur.length cap ∧ RowAt w a cur ∧ cur.length ≤ cap ∧ cap ≤ maxLen ∧ fs.length + cur.length ≤ 100000000 ∧ Out w.heap.size wr vk vr (fs.map Fr.k) rs rs ∧ rs.map Rc.zs = fs.map Fr.zs ∧ Below w.heap.size w wr ∧ Hid (framesW bs = fs ++ framesW cur) ∧ Hid (∀ x ∈ rs, x.zs.length ≤ x.cap ∧ x.cap ≤ maxLen ∧ ∀ ad, x.a = some ad → w.heap.size ≤ ad.block)) (fun b _ _ _ => lenOf b)
  case atStart => exact ⟨a, cap, bs, [], [], rfl, h, hc, hm, by simpa using hl, Out.nil _ _, rfl, Below.refl _ _, hide rfl, hide (by simp)⟩
  case round =>
    clear h hc hm hl
    obtain ⟨a, cap, cur, fs, rs, rfl, hrow, hc, hm, hn, hO, hzs, hB, HF, HX⟩ := hrel
    have cf := xfirst_any a cap cur wr (hrow.below hB) hc hm (by omega)
    have hst := framesW_step hrow.2.1
    unfold maxLen at hm
    cases hf : firstW cur with
    | none =>
      rw [hf] at cf hst
      simp only at hst
      have HF' : Hid (framesW bs = fs) := hide (by rw [HF.out, hst, List.append_nil])
      clear HF hst hf
      go_wp2_with fail
      refine cf.mono ?_
      rintro e1 w1 ⟨he, hB1⟩
      obtain rfl := he
      clear cf
      go_wp2
      go_ret2
      rw [HF'.out]
      exact ⟨⟨_, _, rs, rfl, hO.below hB1, hzs, HX.out⟩, hB.trans (hB1.mono hB.size)⟩
    | some f =>
      obtain ⟨l1, l2⟩ := firstW_len hrow.2.1 hf
      have hkk := firstW_kind hf
      rw [hf] at cf
      have hst' : Hid (framesW cur = f :: framesW (cur.drop f.n)) := hide (by rw [hst, hf])
      clear hst
      obtain ⟨b, off, rfl, -, -, -, -⟩ := hrow.get 0 (by omega)
      obtain ⟨fk, fz, fn⟩ := f
      simp only at l1 l2 hkk
      have n0 : ((fn : Int) == 0) = false := beq_eq_false_iff_ne.2 (by omega)
      have hrl : rs.length = fs.length := by simpa using congrArg List.length hzs
      clear hf
      by_cases hcn : cap = fn
      · subst cap
        go_wp2_with fail
        refine cf.mono ?_
        rintro e1 w1 ⟨⟨g, rc, rfl, hrg, hg0, hg1, hg2, hg3⟩, hB1⟩
        simp only at hrg hg2 l1 l2 hkk n0
        have hO1 := (hO.below hB1).more ⟨some ⟨g, 0, none⟩, rc, fz⟩ hrg (fun ad q => by
          cases q
          exact ⟨hg1, fun q => by have := (hO.k.lt _ q).2; simp only at this; omega, fun q => by have := (hO.r.lt _ q).2; simp only at this; omega⟩)
        have hB2 : Below w.heap.size w w1 := hB.trans (hB1.mono hB.size)
        have HX2 : Hid (∀ x ∈ rs ++ [(⟨some ⟨g, 0, none⟩, rc, fz⟩ : Rc)], x.zs.length ≤ x.cap ∧ x.cap ≤ maxLen ∧ ∀ ad, x.a = some ad → w.heap.size ≤ ad.block) := hide (fun x hx => by
          rcases List.mem_append.1 hx with hx | hx
          · exact HX.out x hx
          · rw [List.mem_singleton.1 hx]
            exact ⟨hg2, hg3, fun ad q => by cases q; have := hB.size; show w.heap.size ≤ g; omega⟩)
        clear cf hO hB hB1 hrg hg0 hg1 hg2 hg3
        go_wp2_with (at_builtin; refine wpList_append_own_src2 _ rfl _ _ 35 35 rfl w.heap.size 5 i0 (.int .u8 0) 1 1 Tryz.underlying35 hi hz0 hz1 hz2 rfl _ _ _ rfl (hO1.k.alloc _) _ 1 _ rfl (b1_src _ _) ?c1 ?c2 ?c3 ?_)
        case c1 => unfold maxLen; simp only [List.length_map]; omega
        case c2 => simp only [List.length_map]; omega
        case c3 => have := hB2.size; simp; omega
        intro v2 w2 hown2 hgr2 hap2
        have hbA : Below w1.heap.size w1 (w1.alloc (.cells #[.int .u8 fk] 5)) := (Below.refl _ _).alloc (Nat.le_refl _) _
        have hO2 := (hO1.below hbA).addK (z := fk) ⟨by omega, by omega⟩ (by rw [List.length_map]; exact hown2) hgr2 (fun g q => by simpa using hap2 g q)
        have hB3 : Below w.heap.size w w2 := (hB2.trans (hbA.mono hB2.size)).grown hgr2 (by have := hB2.size; simp; omega) (fun k hk => (hO1.k.lt k hk).1)
        clear hown2 hgr2 hap2 hbA hB2 hO1
        go_wp2_with (at_builtin; refine wpList_append_own_src2 _ rfl _ _ 36 36 rfl w.heap.size 35 i1 (.slice none 0 0) 1 24 Tryz.underlying36 hj hj0 hj1 hj2 rfl _ _ _ rfl (hO2.r.alloc _) _ 1 _ rfl (s1_src w2 ⟨some ⟨g, 0, none⟩, rc, fz⟩) ?c1 ?c2 ?c3 ?_)
        case c1 => unfold maxLen; omega
        case c2 => omega
        case c3 => have := hB3.size; simp; omega
        intro v3 w3 hown3 hgr3 hap3
        have hbB : Below w2.heap.size w2 (w2.alloc (.cells #[Rc.val ⟨some ⟨g, 0, none⟩, rc, fz⟩] 35)) := (Below.refl _ _).alloc (Nat.le_refl _) _
        have hO3 := (hO2.below hbB).addR (y := ⟨some ⟨g, 0, none⟩, rc, fz⟩) (by rw [hrl]; exact hown3) hgr3 (fun g q => by simpa using hap3 g q)
        have hB4 : Below w.heap.size w w3 := (hB3.trans (hbB.mono hB3.size)).grown hgr3 (by have := hB3.size; simp; omega) (fun k hk => (hO2.r.lt k hk).1)
        clear hown3 hgr3 hap3 hbB hB3 hO2
        go_wp2
        go_roundw
        case rel =>
          refine ⟨cutA (some ⟨b, off, none⟩) fn fn, fn - fn, cur.drop fn, fs ++ [⟨fk, fz, fn⟩], rs ++ [⟨some ⟨g, 0, none⟩, rc, fz⟩], ?_, hrow.drop fn fn l2 hc, by rw [List.length_drop]; omega, by unfold maxLen; omega, by rw [List.length_append, List.length_drop]; simp only [List.length_cons, List.length_nil]; omega, by simpa using hO3, by simp [hzs], hB4, hide (by rw [HF.out, hst'.out]; simp), HX2⟩
          rw [List.length_drop]
          unfold cutA
          rw [if_pos rfl]
          simp
          omega
        case measure => simp only [lenOf]; omega
      · go_wp2_with fail
        refine cf.mono ?_
        rintro e1 w1 ⟨⟨g, rc, rfl, hrg, hg0, hg1, hg2, hg3⟩, hB1⟩
        simp only at hrg hg2 l1 l2 hkk n0
        have hO1 := (hO.below hB1).more ⟨some ⟨g, 0, none⟩, rc, fz⟩ hrg (fun ad q => by
          cases q
          exact ⟨hg1, fun q => by have := (hO.k.lt _ q).2; simp only at this; omega, fun q => by have := (hO.r.lt _ q).2; simp only at this; omega⟩)
        have hB2 : Below w.heap.size w w1 := hB.trans (hB1.mono hB.size)
        have HX2 : Hid (∀ x ∈ rs ++ [(⟨some ⟨g, 0, none⟩, rc, fz⟩ : Rc)], x.zs.length ≤ x.cap ∧ x.cap ≤ maxLen ∧ ∀ ad, x.a = some ad → w.heap.size ≤ ad.block) := hide (fun x hx => by
          rcases List.mem_append.1 hx with hx | hx
          · exact HX.out x hx
          · rw [List.mem_singleton.1 hx]
            exact ⟨hg2, hg3, fun ad q => by cases q; have := hB.size; show w.heap.size ≤ g; omega⟩)
        clear cf hO hB hB1 hrg hg0 hg1 hg2 hg3
        go_wp2_with (at_builtin; refine wpList_append_own_src2 _ rfl _ _ 35 35 rfl w.heap.size 5 i0 (.int .u8 0) 1 1 Tryz.underlying35 hi hz0 hz1 hz2 rfl _ _ _ rfl (hO1.k.alloc _) _ 1 _ rfl (b1_src _ _) ?c1 ?c2 ?c3 ?_)
        case c1 => unfold maxLen; simp only [List.length_map]; omega
        case c2 => simp only [List.length_map]; omega
        case c3 => have := hB2.size; simp; omega
        intro v2 w2 hown2 hgr2 hap2
        have hbA : Below w1.heap.size w1 (w1.alloc (.cells #[.int .u8 fk] 5)) := (Below.refl _ _).alloc (Nat.le_refl _) _
        have hO2 := (hO1.below hbA).addK (z := fk) ⟨by omega, by omega⟩ (by rw [List.length_map]; exact hown2) hgr2 (fun g q => by simpa using hap2 g q)
        have hB3 : Below w.heap.size w w2 := (hB2.trans (hbA.mono hB2.size)).grown hgr2 (by have := hB2.size; simp; omega) (fun k hk => (hO1.k.lt k hk).1)
        clear hown2 hgr2 hap2 hbA hB2 hO1
        go_wp2_with (at_builtin; refine wpList_append_own_src2 _ rfl _ _ 36 36 rfl w.heap.size 35 i1 (.slice none 0 0) 1 24 Tryz.underlying36 hj hj0 hj1 hj2 rfl _ _ _ rfl (hO2.r.alloc _) _ 1 _ rfl (s1_src w2 ⟨some ⟨g, 0, none⟩, rc, fz⟩) ?c1 ?c2 ?c3 ?_)
        case c1 => unfold maxLen; omega
        case c2 => omega
        case c3 => have := hB3.size; simp; omega
        intro v3 w3 hown3 hgr3 hap3
        have hbB : Below w2.heap.size w2 (w2.alloc (.cells #[Rc.val ⟨some ⟨g, 0, none⟩, rc, fz⟩] 35)) := (Below.refl _ _).alloc (Nat.le_refl _) _
        have hO3 := (hO2.below hbB).addR (y := ⟨some ⟨g, 0, none⟩, rc, fz⟩) (by rw [hrl]; exact hown3) hgr3 (fun g q => by simpa using hap3 g q)
        have hB4 : Below w.heap.size w w3 := (hB3.trans (hbB.mono hB3.size)).grown hgr3 (by have := hB3.size; simp; omega) (fun k hk => (hO2.r.lt k hk).1)
        clear hown3 hgr3 hap3 hbB hB3 hO2
        go_wp2
        go_roundw
        case rel =>
          refine ⟨cutA (some ⟨b, off, none⟩) cap fn, cap - fn, cur.drop fn, fs ++ [⟨fk, fz, fn⟩], rs ++ [⟨some ⟨g, 0, none⟩, rc, fz⟩], ?_, hrow.drop fn cap l2 hc, by rw [List.length_drop]; omega, by unfold maxLen; omega, by rw [List.length_append, List.length_drop]; simp only [List.length_cons, List.length_nil]; omega, by simpa using hO3, by simp [hzs], hB4, hide (by rw [HF.out, hst'.out]; simp), HX2⟩
          rw [List.length_drop]
          unfold cutA
          rw [if_neg hcn, Option.map_some, Addr.add_mid]
        case measure => simp only [lenOf]; omega
set_option maxRecDepth 100000 in
set_option maxHeartbeats 8000000 in
theorem xarea_any (A : Nat → Prop) (p : Nat) (M : Mt) (area : Int) (bs : List Int) (w0 : World) (hT : RLive A w0 p M) (hbs : M.read area = bs) (hl : bs.length ≤ 100000000) :
    Calls Tryz.prog 52 #[.pointer (some ⟨p, 0, none⟩), .int .i64 area] w0 fun e w' => (∃ v rs, e = .returned (.tuple #[.int .i64 (turnW (framesW bs)), v]) ∧ ROwn w0.heap.size w' v rs ∧ rs.map Rc.zs = recsW (framesW bs) ∧ rs.length ≤ bs.length) ∧ Below w0.heap.size w0 w' := by
  have hbz : ∀ z ∈ bs, 0 ≤ z ∧ z < 256 := by rw [← hbs]; exact (Mt.read_ok hT.ok area).1
  have hfl : (framesW bs).length ≤ bs.length := by
    rw [framesW_fits hbz]
    exact Nat.le_trans (List.takeWhile_sublist _).length_le (fitsW_len hbz)
  have hfm := frames_mem hbz
  obtain ⟨fs, hfs⟩ : ∃ fs, Hid (framesW bs = fs) := ⟨_, hide rfl⟩
  rw [hfs.out] at hfl hfm ⊢
  have cR := rl_read hT area
  rw [hbs] at cR
  obtain ⟨fa0, hfa0⟩ : ∃ z, Hid (M.fault area = z) := ⟨_, hide rfl⟩
  rw [hfa0.out] at cR
  clear hT hbs hfa0
  go_enter Tryz.func52, Tryz.ntmps52
  go_wp2_with fail
  refine cR.mono ?_
  rintro e w ⟨a, cap, rfl, hrow, hB0, hc, hcm⟩
  clear cR
  have cF := xframes2 a cap bs w hrow hc hcm hl
  rw [hfs.out] at cF
  clear hfs
  obtain ⟨i1, hj, hj0, hj1, hj2⟩ := info_parts infoS
  go_wp2_with fail
  refine cF.mono ?_
  rintro e w1 ⟨⟨vk, vr, rs, rfl, hO, hzs, hlen⟩, hB1⟩
  clear cF
  have hrl : rs.length = fs.length := by simpa using congrArg List.length hzs
  obtain ⟨ar, cr, rfl, hR⟩ := hO.recs (by omega)
  have hkb := own_bytes hO.k hO.kb (by rw [List.length_map]; unfold maxLen; omega)
  obtain ⟨ak, ck, rfl, -, -, hK⟩ := hkb
  rw [List.length_map]
  obtain ⟨ps, hps⟩ : ∃ ps, Hid (fs.zip rs = ps) := ⟨_, hide rfl⟩
  have hpl : Hid (ps.length = fs.length) := hide (by rw [← hps.out, List.length_zip]; omega)
  have hpk : ∀ k (h : k < fs.length) (h' : k < ps.length), ps[k].1 = fs[k] ∧ ps[k].2 = rs[k]'(by omega) := fun k h h' => by
    have : ps[k]? = (fs.zip rs)[k]? := by rw [hps.out]
    rw [List.getElem?_eq_getElem h', List.getElem?_eq_getElem (by rw [List.length_zip]; omega)] at this
    simp only [Option.some.injEq] at this
    rw [this, List.getElem_zip]
    exact ⟨rfl, rfl⟩
  go_wp2_with fail
  go_loopw [10, 11, 12] (fun tv v iv wr => ∃ (k : Nat) (t : Int), k ≤ fs.length ∧ iv = .int .i64 (k : Int) ∧ tv = .int .i64 t ∧ Hid (t = turnP (ps.take k)) ∧ ROwn w.heap.size wr v (keepP (ps.take k)) ∧ Below w1.heap.size w1 wr ∧ Hid (∀ g, v.ownBlock = some g → w1.heap.size ≤ g)) (fun _ _ iv _ => fs.length - (intOf iv).toNat)
  case atStart => exact ⟨0, 0, by omega, rfl, rfl, hide (by simp [turnP, turnW]), by simpa [keepP] using ROwn.nil _ _, Below.refl _ _, hide (by simp [Value.ownBlock])⟩
  case round =>
    obtain ⟨k, t, hk, rfl, rfl, hT, hW, hB, hV⟩ := hrel
    by_cases hlt : k < fs.length
    · have hlt' : k < ps.length := by rw [hpl.out]; exact hlt
      obtain ⟨p1, p2⟩ := hpk k hlt hlt'
      obtain ⟨b1, o1, hA1, hb1, hc1, hz0, hz1⟩ := hK.get k (by rw [List.length_map]; exact hlt)
      obtain ⟨b2, o2, hA2, hb2, hc2, hr2⟩ := hR.get k (by omega)
      have T1 := turnP_step ps k hlt'
      have K1 := keepP_step ps k hlt'
      have hzz : fs[k].zs = (rs[k]'(by omega)).zs := by
        have q := congrArg (·[k]?) hzs
        simp only [List.getElem?_map] at q
        rw [List.getElem?_eq_getElem hlt, List.getElem?_eq_getElem (by omega)] at q
        simpa using q.symm
      have hkk : (fs.map Fr.k).getD k 0 = fs[k].k := by
        rw [List.getD_eq_getElem?_getD, List.getElem?_map, List.getElem?_eq_getElem hlt]
        rfl
      simp only [p1, p2] at T1 K1
      rw [hzz] at T1
      rw [hkk] at hc1 hz0 hz1
      have hxm := hfm _ (List.getElem_mem hlt)
      rw [hzz] at hxm
      have hxm := hxm.1
      have hxo := hO.off _ (List.getElem_mem (show k < rs.length by omega))
      have hxl := hlen _ (List.getElem_mem (show k < rs.length by omega))
      generalize fs[k].k = kk at *
      generalize (rs[k]'(by omega)) = x at *
      obtain ⟨xa, xc, xz⟩ := x
      simp only at T1 K1 hc2 hr2 hxo hxl hxm
      subst hA1 hA2
      have g1 : wr.cell? ⟨b1, o1 + k, none⟩ = some (.int .u8 kk) := (cell_block (hB.block b1 hb1)).1.trans hc1
      have g2 : wr.cell? ⟨b2, o2 + k, none⟩ = some (.slice xa xz.length xc) := (cell_block (hB.block b2 hb2)).1.trans hc2
      have hrx := hr2.below hB
      have HT1 := hide T1
      have HK1 := hide K1
      have hkI : (k : Int) < (fs.length : Int) := by omega
      have hkl : (k : Int) < (rs.length : Int) := by omega
      have hxz : xz.length ≤ 100000000 := by omega
      clear T1 K1 p1 p2 hzz hkk hc1 hc2 hr2 hpk hR hK hlt' hO hzs
      by_cases k71 : kk = 71
      · subst k71
        have T1 := HT1.out
        have K1 := HK1.out
        rw [if_pos rfl] at T1 K1
        have HT1 := hide T1
        have HK1 := hide K1
        clear T1 K1
        have cT := xturn_any xa xc xz wr hrx hxz
        obtain ⟨tn, htn⟩ : ∃ tn, Hid (turnN xz = tn) := ⟨_, hide rfl⟩
        rw [htn.out] at cT
        go_wp2_with fail
        refine cT.mono ?_
        rintro e w2 ⟨rfl, hB2⟩
        clear cT
        have hB' : Below w1.heap.size w1 w2 := hB.trans (hB2.mono hB.size)
        have hW' := hW.below hB2
        by_cases hmx : t < tn
        · have hm1 : max t tn = tn := by omega
          go_wp2
          go_roundw
          case rel =>
            refine ⟨k + 1, tn, by omega, by go_num, by first | rfl | (rw [hm1]), hide (by rw [HT1.out, htn.out, ← hT.out]; exact hm1.symm), by rw [HK1.out]; exact hW', hB', hV⟩
          case measure => simp [intOf]; omega
        · have hm1 : max t tn = t := by omega
          go_wp2
          go_roundw
          case rel =>
            refine ⟨k + 1, t, by omega, by go_num, by first | rfl | (rw [hm1]), hide (by rw [HT1.out, htn.out, ← hT.out]; exact hm1.symm), by rw [HK1.out]; exact hW', hB', hV⟩
          case measure => simp [intOf]; omega
      · have T1 := HT1.out
        have K1 := HK1.out
        rw [if_neg k71] at T1 K1
        have HT1 := hide T1
        have HK1 := hide K1
        clear T1 K1
        have n71 : (kk == 71) = false := by simpa using k71
        have hkp := keepP_len (ps.take k)
        rw [List.length_take] at hkp
        have hws : w.heap.size ≤ wr.heap.size := Nat.le_trans hB1.size hB.size
        go_wp2_with (at_builtin; refine wpList_append_own_src2 _ rfl _ _ 36 36 rfl w.heap.size 35 i1 (.slice none 0 0) 1 24 Tryz.underlying36 hj hj0 hj1 hj2 rfl _ _ _ rfl (hW.r.alloc _) _ 1 _ rfl (s1_src wr ⟨xa, xc, xz⟩) ?c1 ?c2 ?c3 ?_)
        case c1 => unfold maxLen; omega
        case c2 => omega
        case c3 => (try simp); omega
        intro v2 w2 hown2 hgr2 hap2
        have hbA : Below wr.heap.size wr (wr.alloc (.cells #[Rc.val ⟨xa, xc, xz⟩] 35)) := (Below.refl _ _).alloc (Nat.le_refl _) _
        have hB' : Below w1.heap.size w1 (wr.alloc (.cells #[Rc.val ⟨xa, xc, xz⟩] 35)) := hB.trans (hbA.mono hB.size)
        have hgn : Below w1.heap.size w1 w2 := hB'.grown hgr2 hB'.size (fun g q => hV.out g q)
        have hW' := (hW.below hbA).add (y := ⟨xa, xc, xz⟩) (hrx.below hbA) ⟨hxl.1, hxl.2.1⟩ (fun ad q => ⟨hxl.2.2 ad q, by have := (hxo ad q).1; have := hB'.size; omega, fun q1 => by have := hV.out _ q1; have := (hxo ad q).1; omega⟩) hown2 hgr2 (fun g q => by simpa using hap2 g q)
        go_wp2
        go_roundw
        case rel =>
          refine ⟨k + 1, t, by omega, by go_num, rfl, hide (by rw [HT1.out]; exact hT.out), by rw [HK1.out]; exact hW', hgn, hide (fun g q => by
            rcases hap2 g q with q | q
            · exact hV.out g q
            · have := hB.size; (try simp at q); omega)⟩
        case measure => simp [intOf]; omega
    · obtain rfl : k = fs.length := by omega
      have e1 : Hid (ps.take fs.length = ps) := hide (List.take_of_length_le (by rw [hpl.out]; exact Nat.le_refl _))
      rw [e1.out] at hT hW
      go_wp2
      go_ret2
      refine ⟨⟨_, _, ?_, hW.lower hB0.size, ?_, ?_⟩, hB0.trans ((hB1.trans (hB.mono hB1.size)).mono hB0.size)⟩
      · rw [hT.out, ← hps.out, turnP_zip fs rs hrl.symm]
        rfl
      · rw [← hps.out]; exact keepP_zs fs rs hzs
      · have := keepP_len ps
        have := hpl.out
        omega
end Go.Proofs.YtfkchnjbbbhmjaaGreat.Ty
namespace Go.Proofs.YtfkchnjbbbhmjaaGreat.Ty
open Go.RowKit
open Tal
set_option maxRecDepth 100000 in
set_option maxHeartbeats 4000000 in
theorem xon_any (j : Jv) (M : Mt) (A : Nat → Prop) (w : World) (h : JAt w j) (hT : RLive A w j.p M) : Calls Tryz.prog 16 #[jptr j] w fun e w' => e = .returned (.bool (M.jon j.fs)) ∧ Below w.heap.size w w' := by
  have h0 := h.cell 0 rfl
  have h3 := h.cell 3 rfl
  have k5 := hT.dark
  have k10 := hT.fails
  unfold Mt.jon
  unfold jptr
  clear h hT
  cases hon : M.on
  · rw [hon] at k5
    have HON := hide hon
    clear hon
    have hd : decide (M.fa = j.fs) = decide (M.fa = j.fs) := rfl
    go_enter Tryz.func16, Tryz.ntmps16
    go_wp2_with fail
    go_quiet (fail)
    go_wp2
    go_ret
    exact ⟨rfl, below_drewN (Below.refl _ _) _⟩
  · rw [hon] at k5
    clear hon
    by_cases hf : M.fa = j.fs
    · have hf' : (M.fa == j.fs) = true := by simpa using hf
      have e : Hid (decide (M.fa = j.fs) = true) := hide (by simpa using hf)
      rw [e.out]
      clear hf
      go_enter Tryz.func16, Tryz.ntmps16
      go_wp2_with fail
      go_quiet (fail)
      go_wp2
      go_ret
      exact ⟨rfl, below_drewN (Below.refl _ _) _⟩
    · have hf' : (M.fa == j.fs) = false := by simpa using hf
      have e : Hid (decide (M.fa = j.fs) = false) := hide (by simpa using hf)
      rw [e.out]
      clear hf
      go_enter Tryz.func16, Tryz.ntmps16
      go_wp2_with fail
      go_quiet (fail)
      go_wp2
      go_ret
      exact ⟨rfl, below_drewN (Below.refl _ _) _⟩
set_option maxRecDepth 100000 in
set_option maxHeartbeats 4000000 in
theorem xsync_any (j : Jv) (M : Mt) (A : Nat → Prop) (w : World) (h : JAt w j) (hT : RLive A w j.p M) (hA : ∀ b, A b → b < w.heap.size) (hqr : ¬ (j.q = j.p)) :
    Calls Tryz.prog 34 #[jptr j] w fun e w' => e = .returned (.int .i64 (M.jsync j).1) ∧ RLive A w' j.p (M.jsync j).2 ∧ JAt w' j ∧ Off (fun b => b = j.p) w w' := by
  have cO := xon_any j M A w h hT
  unfold Mt.jsync
  cases hon : M.jon j.fs
  · rw [hon] at cO
    unfold jptr at *
    rw [if_neg (by simp)]
    clear hon
    go_enter Tryz.func34, Tryz.ntmps34
    go_wp2_with fail
    refine cO.mono ?_
    rintro e w1 ⟨rfl, hB1⟩
    clear cO
    have HF := hide (And.intro (hT.below hB1) (And.intro (h.below hB1) (Off.of_below (F := fun b => b = j.p) hB1)))
    clear h hT
    go_wp2
    go_ret
    exact ⟨rfl, HF.out⟩
  · rw [hon] at cO
    unfold jptr at *
    rw [if_pos rfl]
    clear hon
    go_enter Tryz.func34, Tryz.ntmps34
    go_wp2_with fail
    refine cO.mono ?_
    rintro e w1 ⟨rfl, hB1⟩
    clear cO
    go_wp2_with fail
    obtain ⟨w8, hw8⟩ : ∃ w8, w1.drew = w8 := ⟨_, rfl⟩
    have hB8 : Below w.heap.size w w8 := by rw [← hw8]; exact hB1.drew
    have hJ8 := h.below hB8
    have hT8 := hT.below hB8
    have hA8 : ∀ b, A b → b < w8.heap.size := fun b hb => Nat.lt_of_lt_of_le (hA b hb) hB8.size
    have cS := rl_sync hT8 hA8 j.ar
    refine hs_begin (S := (fun W => JAt W j)) 10 rfl (by kernel_rfl) ?_
    rw [hw8]
    clear hw8
    have hS : JAt w8 j := hJ8
    refine hs_take (i := 0) (d := some 6) (v := ?_) rfl (by kernel_rfl) (by kernel_rfl) (by kernel_rfl) (by rfl) ?_ hS rfl ?_
    rotate_left
    · intro w' hw
      go_simp
      try with_reducible rfl
    simp only [Act.put, List.setIfInBounds_toArray, List.set_cons_zero, List.set_cons_succ]
    refine hs_take (i := 1) (d := some 7) (v := ?_) rfl (by kernel_rfl) (by kernel_rfl) (by kernel_rfl) (by rfl) ?_ hS rfl ?_
    rotate_left
    · intro w' hw
      go_simp
      try with_reducible rfl
    simp only [Act.put, List.setIfInBounds_toArray, List.set_cons_zero, List.set_cons_succ]
    refine hs_take (i := 2) (d := some 8) (v := ?_) rfl (by kernel_rfl) (by kernel_rfl) (by kernel_rfl) (by rfl) ?_ hS rfl ?_
    rotate_left
    · intro w' hw
      go_simp
      try with_reducible rfl
    simp only [Act.put, List.setIfInBounds_toArray, List.set_cons_zero, List.set_cons_succ]
    refine hs_take (i := 3) (d := some 9) (v := ?_) rfl (by kernel_rfl) (by kernel_rfl) (by kernel_rfl) (by rfl) ?_ hS rfl ?_
    rotate_left
    · intro w' hw
      have := hw.cell 0 rfl
      go_simp
      try with_reducible rfl
    simp only [Act.put, List.setIfInBounds_toArray, List.set_cons_zero, List.set_cons_succ]
    refine hs_take (i := 4) (d := some 10) (v := ?_) rfl (by kernel_rfl) (by kernel_rfl) (by kernel_rfl) (by rfl) ?_ hS rfl ?_
    rotate_left
    · intro w' hw
      go_simp
      try with_reducible rfl
    simp only [Act.put, List.setIfInBounds_toArray, List.set_cons_zero, List.set_cons_succ]
    refine hs_take (i := 5) (d := some 11) (v := ?_) rfl (by kernel_rfl) (by kernel_rfl) (by kernel_rfl) (by rfl) ?_ hS rfl ?_
    rotate_left
    · intro w' hw
      go_simp
      try with_reducible rfl
    simp only [Act.put, List.setIfInBounds_toArray, List.set_cons_zero, List.set_cons_succ]
    refine hs_take (i := 6) (d := some 12) (v := ?_) rfl (by kernel_rfl) (by kernel_rfl) (by kernel_rfl) (by rfl) ?_ hS rfl ?_
    rotate_left
    · intro w' hw
      go_simp
      try with_reducible rfl
    simp only [Act.put, List.setIfInBounds_toArray, List.set_cons_zero, List.set_cons_succ]
    refine hs_take (i := 7) (d := some 13) (v := ?_) rfl (by kernel_rfl) (by kernel_rfl) (by kernel_rfl) (by rfl) ?_ hS rfl ?_
    rotate_left
    · intro w' hw
      have := hw.cell 1 rfl
      go_simp
      try with_reducible rfl
    simp only [Act.put, List.setIfInBounds_toArray, List.set_cons_zero, List.set_cons_succ]
    refine hs_call (i := 8) (d := some 14) rfl (by kernel_rfl) (by rfl) (by go_simp; first | done | exact ⟨rfl, rfl⟩ | with_reducible rfl) rfl ?_
    refine (cS).mono ?_
    rintro e' w9 ⟨rfl, hT9, hO9⟩
    have hS : (fun W => JAt W j) w9 := hJ8.at (hO9.2 _ hJ8.lt hqr)
    refine ⟨_, rfl, hS, ?_⟩
    simp only [Act.put, List.setIfInBounds_toArray, List.set_cons_zero, List.set_cons_succ]
    refine hs_take (i := 9) (d := some 2) (v := ?_) rfl (by kernel_rfl) (by kernel_rfl) (by kernel_rfl) (by rfl) ?_ hS rfl ?_
    rotate_left
    · intro w' hw
      go_simp
      try with_reducible rfl
    simp only [Act.put, List.setIfInBounds_toArray, List.set_cons_zero, List.set_cons_succ]
    refine hs_done (by kernel_rfl) ?_
    have HF := hide (And.intro hT9 (And.intro hS ((Off.of_below (F := fun b => b = j.p) hB8).trans hO9 (fun _ _ q => q))))
    clear h hT hT8 hT9 hJ8 cS
    go_wp2
    go_ret
    exact ⟨rfl, HF.out⟩
set_option maxRecDepth 100000 in
set_option maxHeartbeats 4000000 in
theorem xappend_any (j : Jv) (M : Mt) (A : Nat → Prop) (a : Option Addr) (cap : Nat) (zs : List Int) (w : World) (h : JAt w j) (hT : RLive A w j.p M) (hA : ∀ b, A b → b < w.heap.size) (hqr : ¬ (j.q = j.p)) (hz : RowAt w a zs) :
    Calls Tryz.prog 33 #[jptr j, .slice a zs.length cap] w fun e w' => e = .returned (.int .i64 (M.jappend j zs).1) ∧ RLive A w' j.p (M.jappend j zs).2 ∧ JAt w' j ∧ Off (fun b => b = j.p) w w' := by
  have cO := xon_any j M A w h hT
  unfold Mt.jappend
  cases hon : M.jon j.fs
  · rw [hon] at cO
    unfold jptr at *
    rw [if_neg (by simp)]
    clear hon
    go_enter Tryz.func33, Tryz.ntmps33
    go_wp2_with fail
    refine cO.mono ?_
    rintro e w1 ⟨rfl, hB1⟩
    clear cO
    have HF := hide (And.intro (hT.below hB1) (And.intro (h.below hB1) (Off.of_below (F := fun b => b = j.p) hB1)))
    clear h hT
    go_wp2
    go_ret
    exact ⟨rfl, HF.out⟩
  · rw [hon] at cO
    unfold jptr at *
    rw [if_pos rfl]
    clear hon
    by_cases hl : zs.length ≤ 4194304
    rotate_left
    · rw [if_neg hl]
      have hlI : (4194304 : Int) < (zs.length : Int) := by omega
      go_enter Tryz.func33, Tryz.ntmps33
      go_wp2_with fail
      refine cO.mono ?_
      rintro e w1 ⟨rfl, hB1⟩
      clear cO
      have HF := hide (And.intro (hT.below hB1) (And.intro (h.below hB1) (Off.of_below (F := fun b => b = j.p) hB1)))
      clear h hT
      go_wp2
      go_ret
      exact ⟨rfl, HF.out⟩
    rw [if_pos hl]
    have hlI : ¬ (4194304 : Int) < (zs.length : Int) := by omega
    obtain ⟨FL, hFL⟩ : ∃ FL, Hid (frameL 68 (strOf zs) = FL) := ⟨_, hide rfl⟩
    have hFl : FL.length ≤ maxLen := by
      have := frameL_len 68 zs (by omega)
      rw [hFL.out] at this
      unfold maxLen; omega
    have cX0 := fun w0 h0 => xframe_any 68 a cap zs w0 h0 (by omega) (by omega)
    have e68 : frameL 68 (_root_.Go.Proofs.YtfkchnjbbbhmjaaGreat.strOf zs) = FL := hFL.out
    simp only [hFL.out] at cX0
    rw [e68]
    go_enter Tryz.func33, Tryz.ntmps33
    go_wp2_with fail
    refine cO.mono ?_
    rintro e w1 ⟨rfl, hB1⟩
    clear cO
    go_wp2_with fail
    obtain ⟨w8, hw8⟩ : ∃ w8, w1.drew = w8 := ⟨_, rfl⟩
    have hB8 : Below w.heap.size w w8 := by rw [← hw8]; exact hB1.drew
    have hJ8 := h.below hB8
    have hT8 := hT.below hB8
    have hA8 : ∀ b, A b → b < w8.heap.size := fun b hb => Nat.lt_of_lt_of_le (hA b hb) hB8.size
    have cX := cX0 w8 (hz.below hB8)
    refine hs_begin (S := (fun W => JAt W j)) 12 rfl (by kernel_rfl) ?_
    rw [hw8]
    clear hw8 cX0 hFL e68
    have hS : JAt w8 j := hJ8
    refine hs_take (i := 0) (d := some 11) (v := ?_) rfl (by kernel_rfl) (by kernel_rfl) (by kernel_rfl) (by rfl) ?_ hS rfl ?_
    rotate_left
    · intro w' hw
      go_simp
      try with_reducible rfl
    simp only [Act.put, List.setIfInBounds_toArray, List.set_cons_zero, List.set_cons_succ]
    refine hs_take (i := 1) (d := some 12) (v := ?_) rfl (by kernel_rfl) (by kernel_rfl) (by kernel_rfl) (by rfl) ?_ hS rfl ?_
    rotate_left
    · intro w' hw
      go_simp
      try with_reducible rfl
    simp only [Act.put, List.setIfInBounds_toArray, List.set_cons_zero, List.set_cons_succ]
    refine hs_take (i := 2) (d := some 13) (v := ?_) rfl (by kernel_rfl) (by kernel_rfl) (by kernel_rfl) (by rfl) ?_ hS rfl ?_
    rotate_left
    · intro w' hw
      go_simp
      try with_reducible rfl
    simp only [Act.put, List.setIfInBounds_toArray, List.set_cons_zero, List.set_cons_succ]
    refine hs_take (i := 3) (d := some 14) (v := ?_) rfl (by kernel_rfl) (by kernel_rfl) (by kernel_rfl) (by rfl) ?_ hS rfl ?_
    rotate_left
    · intro w' hw
      have := hw.cell 0 rfl
      go_simp
      try with_reducible rfl
    simp only [Act.put, List.setIfInBounds_toArray, List.set_cons_zero, List.set_cons_succ]
    refine hs_take (i := 4) (d := some 15) (v := ?_) rfl (by kernel_rfl) (by kernel_rfl) (by kernel_rfl) (by rfl) ?_ hS rfl ?_
    rotate_left
    · intro w' hw
      go_simp
      try with_reducible rfl
    simp only [Act.put, List.setIfInBounds_toArray, List.set_cons_zero, List.set_cons_succ]
    refine hs_take (i := 5) (d := some 16) (v := ?_) rfl (by kernel_rfl) (by kernel_rfl) (by kernel_rfl) (by rfl) ?_ hS rfl ?_
    rotate_left
    · intro w' hw
      go_simp
      try with_reducible rfl
    simp only [Act.put, List.setIfInBounds_toArray, List.set_cons_zero, List.set_cons_succ]
    refine hs_take (i := 6) (d := some 17) (v := ?_) rfl (by kernel_rfl) (by kernel_rfl) (by kernel_rfl) (by rfl) ?_ hS rfl ?_
    rotate_left
    · intro w' hw
      go_simp
      try with_reducible rfl
    simp only [Act.put, List.setIfInBounds_toArray, List.set_cons_zero, List.set_cons_succ]
    refine hs_take (i := 7) (d := some 18) (v := ?_) rfl (by kernel_rfl) (by kernel_rfl) (by kernel_rfl) (by rfl) ?_ hS rfl ?_
    rotate_left
    · intro w' hw
      have := hw.cell 1 rfl
      go_simp
      try with_reducible rfl
    simp only [Act.put, List.setIfInBounds_toArray, List.set_cons_zero, List.set_cons_succ]
    refine hs_take (i := 8) (d := some 19) (v := ?_) rfl (by kernel_rfl) (by kernel_rfl) (by kernel_rfl) (by rfl) ?_ hS rfl ?_
    rotate_left
    · intro w' hw
      go_simp
      try with_reducible rfl
    simp only [Act.put, List.setIfInBounds_toArray, List.set_cons_zero, List.set_cons_succ]
    refine hs_call (i := 9) (d := some 20) rfl (by kernel_rfl) (by rfl) (by go_simp; first | done | exact ⟨rfl, rfl⟩ | with_reducible rfl) rfl ?_
    refine (cX).mono ?_
    rintro e' w9 ⟨v9, rfl, hM9, hB9⟩
    have hS : (fun W => JAt W j) w9 := hJ8.below hB9
    refine ⟨_, rfl, hS, ?_⟩
    simp only [Act.put, List.setIfInBounds_toArray, List.set_cons_zero, List.set_cons_succ]
    obtain ⟨a9, c9, rfl, -, -, hr9⟩ := hM9.rowAt hFl
    have cA := rl_append (hT8.below hB9) (fun b hb => Nat.lt_of_lt_of_le (hA8 b hb) hB9.size) j.ar a9 c9 FL hr9 (.inr (fun x hx => by
      have := (hM9.1.lt x.block (by simp [hx, Value.ownBlock])).1
      have := hT8.lt
      omega))
    refine hs_call (i := 10) (d := some 21) rfl (by kernel_rfl) (by rfl) (by go_simp; first | done | exact ⟨rfl, rfl⟩ | with_reducible rfl) rfl ?_
    refine (cA).mono ?_
    rintro e' w10 ⟨rfl, hT10, hO10⟩
    have hS : (fun W => JAt W j) w10 := (hJ8.below hB9).at (hO10.2 _ (hJ8.below hB9).lt hqr)
    refine ⟨_, rfl, hS, ?_⟩
    simp only [Act.put, List.setIfInBounds_toArray, List.set_cons_zero, List.set_cons_succ]
    refine hs_take (i := 11) (d := some 4) (v := ?_) rfl (by kernel_rfl) (by kernel_rfl) (by kernel_rfl) (by rfl) ?_ hS rfl ?_
    rotate_left
    · intro w' hw
      go_simp
      try with_reducible rfl
    simp only [Act.put, List.setIfInBounds_toArray, List.set_cons_zero, List.set_cons_succ]
    refine hs_done (by kernel_rfl) ?_
    have HF := hide (And.intro hT10 (And.intro hS (((Off.of_below (F := fun b => b = j.p) hB8).trans (Off.of_below hB9) (fun _ _ q => q)).trans hO10 (fun _ _ q => q))))
    clear h hT hT8 hT10 hJ8 cA hM9 hr9
    go_wp2
    go_ret
    exact ⟨rfl, HF.out⟩
end Go.Proofs.YtfkchnjbbbhmjaaGreat.Ty
namespace Go.Proofs.YtfkchnjbbbhmjaaGreat.Ty
open Go.RowKit
open Tal
set_option maxRecDepth 100000 in
set_option maxHeartbeats 8000000 in
theorem xwrite_any (j : Jv) (M : Mt) (A : Nat → Prop) (ar : Int) (ra : Option Addr) (rc : Nat) (rs : List Rc) (w0 : World) (h : JAt w0 j) (hT : RLive A w0 j.p M) (hA : ∀ b, A b → b < w0.heap.size) (hqr : ¬ (j.q = j.p)) (htu : 0 ≤ j.tu ∧ j.tu < 1099511627776)
    (hr : RowOf Rc.cells w0 ra rs) (hl : rs.length ≤ 100000000) (hrA : rs = [] ∨ ∀ x, ra = some x → x.block ≠ j.p) (hrs : ∀ r ∈ rs, RowAt w0 r.a r.zs ∧ r.zs.length ≤ 4194304 ∧ (r.zs = [] ∨ ∀ x, r.a = some x → x.block ≠ j.p)) :
    Calls Tryz.prog 65 #[jptr j, .int .i64 ar, .slice ra rs.length rc] w0 fun e w' => e = .returned (.int .i64 (writeM M ar (j.tu + 1) (rs.map Rc.zs)).1) ∧ RLive A w' j.p (writeM M ar (j.tu + 1) (rs.map Rc.zs)).2 ∧ JAt w' j ∧ Off (fun b => b = j.p) w0 w' := by
  have hx0 := h.cell 0 rfl
  have cC := rl_clear hT hA ar
  obtain ⟨tu, htue⟩ : ∃ tu, Hid (j.tu + 1 = tu) := ⟨_, hide rfl⟩
  have htub : 1 ≤ tu ∧ tu ≤ 1099511627776 := by rw [← htue.out]; omega
  have hpt := putL_length tu (by omega)
  rw [htue.out]
  obtain ⟨we, hwe⟩ : ∃ we, writeM M ar tu (rs.map Rc.zs) = we := ⟨_, rfl⟩
  rw [hwe]
  have HW := hide hwe
  clear hwe
  obtain ⟨ce, hce⟩ : ∃ ce, M.empty ar = ce := ⟨_, rfl⟩
  obtain ⟨cE, M1⟩ := ce
  have HC := hide hce
  rw [hce] at cC
  clear hce
  unfold jptr at *
  go_enter Tryz.func65, Tryz.ntmps65
  go_wp2_with fail
  refine cC.mono ?_
  rintro e w1 ⟨rfl, hT1, hO1⟩
  clear cC hx0
  have hJ1 : JAt w1 j := h.at (hO1.2 _ h.lt hqr)
  by_cases hcE : cE = 0
  rotate_left
  · have hz0 : (cE == 0) = false := by simpa using hcE
    have HF : Hid (we = (cE, M1)) := hide (by rw [← HW.out]; unfold writeM onward; rw [HC.out, if_neg hcE])
    clear hcE
    have HG := hide (And.intro hT1 (And.intro hJ1 hO1))
    clear hT1 hO1
    go_wp2_with fail
    go_ret
    exact ⟨by rw [HF.out]; rfl, by rw [HF.out]; exact HG.out⟩
  · subst hcE
    have HW1 : Hid (onward (layRecs ar (rs.map Rc.zs) M1) (fun M2 => onward (M2.append ar (frameL 71 (_root_.Go.Proofs.YtfkchnjbbbhmjaaGreat.strOf (putL tu)))) fun M3 => M3.sync ar) = we) := hide (by
      have := HW.out
      unfold writeM at this
      rw [HC.out] at this
      exact this)
    clear HW HC hT
    go_wp2_with fail
    go_loopw [7, 8] (fun _ iv wr => ∃ (k : Nat) (Mk : Mt), k ≤ rs.length ∧ iv = .int .i64 (k : Int) ∧ RLive A wr j.p Mk ∧ JAt wr j ∧ Off (fun b => b = j.p) w0 wr ∧ Hid (layRecs ar (rs.map Rc.zs) M1 = layRecs ar ((rs.drop k).map Rc.zs) Mk)) (fun _ iv _ => rs.length - (intOf iv).toNat)
    case atStart => exact ⟨0, M1, by omega, rfl, hT1, hJ1, hO1, hide rfl⟩
    case round =>
      clear hT1 hJ1 hO1
      obtain ⟨k, Mk, hk, rfl, hTw, hJw, hOw, HL⟩ := hrel
      obtain ⟨w, rfl⟩ : ∃ w, w = wr := ⟨_, rfl⟩
      have hAw : ∀ b, A b → b < w.heap.size := fun b hb => Nat.lt_of_lt_of_le (hA b hb) hOw.size
      by_cases hlt : k < rs.length
      · have hltI : (k : Int) < (rs.length : Int) := by omega
        obtain ⟨rb, off, rfl, hrb, hre0⟩ := hr.elem (k := 1) (fun _ _ => rfl) k hlt
        have hrbp : ¬ (rb = j.p) := by
          rcases hrA with q | q
          · rw [q] at hlt; simp at hlt
          · exact q _ rfl
        have c0 : w.cell? ⟨rb, off + k, none⟩ = some (.slice rs[k].a rs[k].zs.length rs[k].cap) := by
          have := (range_at hre0 (hOw.2 rb hrb hrbp)) 0 _ rfl
          simpa using this
        have hys := hrs _ (List.getElem_mem hlt)
        have HD := hide (List.drop_eq_getElem_cons hlt)
        obtain ⟨y, hy⟩ : ∃ y, Hid (rs[k] = y) := ⟨_, hide rfl⟩
        rw [hy.out] at c0 hys HD
        clear hre0 hy
        obtain ⟨ya, yc, yz⟩ := y
        simp only at c0 hys
        obtain ⟨hyr0, hyl, hyA⟩ := hys
        have hyr : RowAt w ya yz := hyr0.off hOw hyA
        obtain ⟨FL, hFL⟩ : ∃ FL, Hid (frameL 68 (strOf yz) = FL) := ⟨_, hide rfl⟩
        have hFl : FL.length ≤ maxLen := by
          have := frameL_len 68 yz (by omega)
          rw [hFL.out] at this
          unfold maxLen; omega
        have e68 : Hid (frameL 68 (_root_.Go.Proofs.YtfkchnjbbbhmjaaGreat.strOf yz) = FL) := hide hFL.out
        obtain ⟨ae, hae⟩ : ∃ ae, Hid (Mk.append ar FL = ae) := ⟨_, hide rfl⟩
        obtain ⟨aE, Ma⟩ := ae
        have HS : Hid (layRecs ar ((rs.drop k).map Rc.zs) Mk = if aE = 0 then layRecs ar ((rs.drop (k + 1)).map Rc.zs) Ma else (aE, Ma)) := hide (by
          rw [HD.out, List.map_cons]
          show (if (Mk.append ar (frameL 68 (_root_.Go.Proofs.YtfkchnjbbbhmjaaGreat.strOf yz))).1 = 0 then _ else _) = _
          rw [e68.out, hae.out])
        go_wp2_with fail
        obtain ⟨w8, hw8⟩ : ∃ w8, w.drew = w8 := ⟨_, rfl⟩
        have B8 : Below w.heap.size w w8 := by rw [← hw8]; exact (Below.refl _ _).drew
        have hA8 : ∀ b, A b → b < w8.heap.size := fun b hb => Nat.lt_of_lt_of_le (hAw b hb) B8.size
        have hJ8 := hJw.below B8
        have hT8 := hTw.below B8
        have hrb8 : rb < w8.heap.size := Nat.lt_of_lt_of_le hrb (Nat.le_trans hOw.size B8.size)
        have hc8 := cell_at c0 (B8.block rb (Nat.lt_of_lt_of_le hrb hOw.size))
        have cX := xframe_any 68 ya yc yz w8 (hyr.below B8) (by omega) (by omega)
        rw [hFL.out] at cX
        refine hs_begin (S := (fun W => JAt W j ∧ W.cell? ⟨rb, off + k, none⟩ = some (.slice ya yz.length yc))) 12 rfl (by kernel_rfl) ?_
        rw [hw8]
        clear hw8
        have hS : (fun W => JAt W j ∧ W.cell? ⟨rb, off + k, none⟩ = some (.slice ya yz.length yc)) w8 := ⟨hJ8, hc8⟩
        refine hs_take (i := 0) (d := some 24) (v := ?_) rfl (by kernel_rfl) (by kernel_rfl) (by kernel_rfl) (by rfl) ?_ hS rfl ?_
        rotate_left
        · intro w' hw
          go_simp
          try with_reducible rfl
        simp only [Act.put, List.setIfInBounds_toArray, List.set_cons_zero, List.set_cons_succ]
        refine hs_take (i := 1) (d := some 25) (v := ?_) rfl (by kernel_rfl) (by kernel_rfl) (by kernel_rfl) (by rfl) ?_ hS rfl ?_
        rotate_left
        · intro w' hw
          go_simp
          try with_reducible rfl
        simp only [Act.put, List.setIfInBounds_toArray, List.set_cons_zero, List.set_cons_succ]
        refine hs_take (i := 2) (d := some 26) (v := ?_) rfl (by kernel_rfl) (by kernel_rfl) (by kernel_rfl) (by rfl) ?_ hS rfl ?_
        rotate_left
        · intro w' hw
          go_simp
          try with_reducible rfl
        simp only [Act.put, List.setIfInBounds_toArray, List.set_cons_zero, List.set_cons_succ]
        refine hs_take (i := 3) (d := some 27) (v := ?_) rfl (by kernel_rfl) (by kernel_rfl) (by kernel_rfl) (by rfl) ?_ hS rfl ?_
        rotate_left
        · intro w' hw
          have := hw.1.cell 0 rfl
          go_simp
          try with_reducible rfl
        simp only [Act.put, List.setIfInBounds_toArray, List.set_cons_zero, List.set_cons_succ]
        refine hs_take (i := 4) (d := some 28) (v := ?_) rfl (by kernel_rfl) (by kernel_rfl) (by kernel_rfl) (by rfl) ?_ hS rfl ?_
        rotate_left
        · intro w' hw
          go_simp
          try with_reducible rfl
        simp only [Act.put, List.setIfInBounds_toArray, List.set_cons_zero, List.set_cons_succ]
        refine hs_take (i := 5) (d := some 29) (v := ?_) rfl (by kernel_rfl) (by kernel_rfl) (by kernel_rfl) (by rfl) ?_ hS rfl ?_
        rotate_left
        · intro w' hw
          go_simp
          try with_reducible rfl
        simp only [Act.put, List.setIfInBounds_toArray, List.set_cons_zero, List.set_cons_succ]
        refine hs_take (i := 6) (d := some 30) (v := ?_) rfl (by kernel_rfl) (by kernel_rfl) (by kernel_rfl) (by rfl) ?_ hS rfl ?_
        rotate_left
        · intro w' hw
          go_simp
          try with_reducible rfl
        simp only [Act.put, List.setIfInBounds_toArray, List.set_cons_zero, List.set_cons_succ]
        refine hs_take (i := 7) (d := some 31) (v := ?_) rfl (by kernel_rfl) (by kernel_rfl) (by kernel_rfl) (by rfl) ?_ hS rfl ?_
        rotate_left
        · intro w' hw
          go_simp
          try with_reducible rfl
        simp only [Act.put, List.setIfInBounds_toArray, List.set_cons_zero, List.set_cons_succ]
        refine hs_take (i := 8) (d := some 32) (v := ?_) rfl (by kernel_rfl) (by kernel_rfl) (by kernel_rfl) (by rfl) ?_ hS rfl ?_
        rotate_left
        · intro w' hw
          have := hw.2
          go_simp
          try with_reducible rfl
        simp only [Act.put, List.setIfInBounds_toArray, List.set_cons_zero, List.set_cons_succ]
        refine hs_call (i := 9) (d := some 33) rfl (by kernel_rfl) (by rfl) (by go_simp; first | done | exact ⟨rfl, rfl⟩ | with_reducible rfl) rfl ?_
        refine (cX).mono ?_
        rintro e' w9 ⟨v9, rfl, hM9, hB9⟩
        have hS : (fun W => JAt W j ∧ W.cell? ⟨rb, off + k, none⟩ = some (.slice ya yz.length yc)) w9 := ⟨hJ8.below hB9, cell_at hc8 (hB9.block rb hrb8)⟩
        refine ⟨_, rfl, hS, ?_⟩
        simp only [Act.put, List.setIfInBounds_toArray, List.set_cons_zero, List.set_cons_succ]
        obtain ⟨a9, c9, rfl, -, -, hr9⟩ := hM9.rowAt hFl
        have cA := rl_append (hT8.below hB9) (fun b hb => Nat.lt_of_lt_of_le (hA8 b hb) hB9.size) ar a9 c9 FL hr9 (.inr (fun x hx => by
          have := (hM9.1.lt x.block (by simp [hx, Value.ownBlock])).1
          have := hT8.lt
          omega))
        rw [hae.out] at cA
        simp only at cA
        have hJ9 := hJ8.below hB9
        have hc9 := cell_at hc8 (hB9.block rb hrb8)
        refine hs_call (i := 10) (d := some 34) rfl (by kernel_rfl) (by rfl) (by go_simp; first | done | exact ⟨rfl, rfl⟩ | with_reducible rfl) rfl ?_
        refine (cA).mono ?_
        rintro e' w10 ⟨rfl, hT10, hO10⟩
        have hS : (fun W => JAt W j ∧ W.cell? ⟨rb, off + k, none⟩ = some (.slice ya yz.length yc)) w10 := ⟨hJ9.at (hO10.2 _ hJ9.lt hqr), cell_at hc9 (hO10.2 rb (Nat.lt_of_lt_of_le hrb8 hB9.size) hrbp)⟩
        refine ⟨_, rfl, hS, ?_⟩
        simp only [Act.put, List.setIfInBounds_toArray, List.set_cons_zero, List.set_cons_succ]
        refine hs_take (i := 11) (d := some 7) (v := ?_) rfl (by kernel_rfl) (by kernel_rfl) (by kernel_rfl) (by rfl) ?_ hS rfl ?_
        rotate_left
        · intro w' hw
          go_simp
          try with_reducible rfl
        simp only [Act.put, List.setIfInBounds_toArray, List.set_cons_zero, List.set_cons_succ]
        refine hs_done (by kernel_rfl) ?_
        have hJ11 := hS.1
        have hO11 : Off (fun b => b = j.p) w0 w10 := ((hOw.trans (Off.of_below B8) (fun _ _ q => q)).trans (Off.of_below hB9) (fun _ _ q => q)).trans hO10 (fun _ _ q => q)
        clear hT8 hTw hJ8 hJ9 hc8 hc9 cA cX hM9 hr9 hO10 hB9 B8 hS hOw hJw c0
        by_cases haE : aE = 0
        · subst haE
          have HL2 : Hid (layRecs ar (rs.map Rc.zs) M1 = layRecs ar ((rs.drop (k + 1)).map Rc.zs) Ma) := hide (by rw [HL.out, HS.out, if_pos rfl])
          go_wp2
          go_roundw
          case rel => exact ⟨k + 1, Ma, by omega, by go_num, hT10, hJ11, hO11, HL2⟩
          case measure => simp [intOf]; omega
        · have hz0 : (aE == 0) = false := by simpa using haE
          have HF : Hid (we = (aE, Ma)) := hide (by
            rw [← HW1.out]
            unfold onward
            rw [HL.out, HS.out, if_neg haE, if_neg haE])
          clear haE
          go_wp2
          go_ret
          exact ⟨by rw [HF.out]; rfl, by rw [HF.out]; exact ⟨hT10, hJ11, hO11⟩⟩
      · obtain rfl : k = rs.length := by omega
        have HL2 : Hid (layRecs ar (rs.map Rc.zs) M1 = (0, Mk)) := hide (by rw [HL.out, List.drop_length]; rfl)
        obtain ⟨PL, hPL⟩ : ∃ PL, Hid (putL tu = PL) := ⟨_, hide rfl⟩
        rw [hPL.out] at hpt
        have hPl : PL.length ≤ maxLen := by unfold maxLen; omega
        obtain ⟨FL, hFL⟩ : ∃ FL, Hid (frameL 71 (strOf PL) = FL) := ⟨_, hide rfl⟩
        have hFl : FL.length ≤ maxLen := by
          have := frameL_len 71 PL (by omega)
          rw [hFL.out] at this
          unfold maxLen; omega
        have e71 : Hid (frameL 71 (strOf PL) = FL) := hide hFL.out
        obtain ⟨ae, hae⟩ : ∃ ae, Hid (Mk.append ar FL = ae) := ⟨_, hide rfl⟩
        obtain ⟨aE, Ma⟩ := ae
        have HW2 : Hid (onward (aE, Ma) (fun M3 => M3.sync ar) = we) := hide (by
          rw [← HW1.out, HL2.out]
          have e3 : Mk.append ar (frameL 71 (_root_.Go.Proofs.YtfkchnjbbbhmjaaGreat.strOf (putL tu))) = (aE, Ma) := by rw [hPL.out]; exact (congrArg (Mk.append ar) e71.out).trans hae.out
          show _ = (if (0 : Int) = 0 then onward (Mk.append ar (frameL 71 (_root_.Go.Proofs.YtfkchnjbbbhmjaaGreat.strOf (putL tu)))) _ else _)
          rw [if_pos rfl, e3])
        have TU : j.tu + 1 = tu := htue.out
        have TW : IntKind.i64.wrap tu = tu := by rw [IntKind.wrap_i64]; omega
        go_wp2_with fail
        obtain ⟨w8, hw8⟩ : ∃ w8, w.drew = w8 := ⟨_, rfl⟩
        have B8 : Below w.heap.size w w8 := by rw [← hw8]; exact (Below.refl _ _).drew
        have hA8 : ∀ b, A b → b < w8.heap.size := fun b hb => Nat.lt_of_lt_of_le (hAw b hb) B8.size
        have hJ8 := hJw.below B8
        have hT8 := hTw.below B8
        have cP := refPut_any none 0 [] tu w8 ⟨by unfold maxLen; simp, by simp, .inl rfl⟩ (by simp) (by omega)
        simp only [List.nil_append, hPL.out, List.length_nil] at cP
        refine hs_begin (S := (fun W => JAt W j)) 14 rfl (by kernel_rfl) ?_
        rw [hw8]
        clear hw8
        have hS : (fun W => JAt W j) w8 := hJ8
        refine hs_take (i := 0) (d := some 38) (v := ?_) rfl (by kernel_rfl) (by kernel_rfl) (by kernel_rfl) (by rfl) ?_ hS rfl ?_
        rotate_left
        · intro w' hw
          go_simp
          try with_reducible rfl
        simp only [Act.put, List.setIfInBounds_toArray, List.set_cons_zero, List.set_cons_succ]
        refine hs_take (i := 1) (d := some 39) (v := ?_) rfl (by kernel_rfl) (by kernel_rfl) (by kernel_rfl) (by rfl) ?_ hS rfl ?_
        rotate_left
        · intro w' hw
          go_simp
          try with_reducible rfl
        simp only [Act.put, List.setIfInBounds_toArray, List.set_cons_zero, List.set_cons_succ]
        refine hs_take (i := 2) (d := some 40) (v := ?_) rfl (by kernel_rfl) (by kernel_rfl) (by kernel_rfl) (by rfl) ?_ hS rfl ?_
        rotate_left
        · intro w' hw
          go_simp
          try with_reducible rfl
        simp only [Act.put, List.setIfInBounds_toArray, List.set_cons_zero, List.set_cons_succ]
        refine hs_take (i := 3) (d := some 41) (v := ?_) rfl (by kernel_rfl) (by kernel_rfl) (by kernel_rfl) (by rfl) ?_ hS rfl ?_
        rotate_left
        · intro w' hw
          have := hw.cell 0 rfl
          go_simp
          try with_reducible rfl
        simp only [Act.put, List.setIfInBounds_toArray, List.set_cons_zero, List.set_cons_succ]
        refine hs_take (i := 4) (d := some 42) (v := ?_) rfl (by kernel_rfl) (by kernel_rfl) (by kernel_rfl) (by rfl) ?_ hS rfl ?_
        rotate_left
        · intro w' hw
          go_simp
          try with_reducible rfl
        simp only [Act.put, List.setIfInBounds_toArray, List.set_cons_zero, List.set_cons_succ]
        refine hs_take (i := 5) (d := some 43) (v := ?_) rfl (by kernel_rfl) (by kernel_rfl) (by kernel_rfl) (by rfl) ?_ hS rfl ?_
        rotate_left
        · intro w' hw
          go_simp
          try with_reducible rfl
        simp only [Act.put, List.setIfInBounds_toArray, List.set_cons_zero, List.set_cons_succ]
        refine hs_take (i := 6) (d := some 44) (v := ?_) rfl (by kernel_rfl) (by kernel_rfl) (by kernel_rfl) (by rfl) ?_ hS rfl ?_
        rotate_left
        · intro w' hw
          go_simp
          try with_reducible rfl
        simp only [Act.put, List.setIfInBounds_toArray, List.set_cons_zero, List.set_cons_succ]
        refine hs_take (i := 7) (d := some 45) (v := ?_) rfl (by kernel_rfl) (by kernel_rfl) (by kernel_rfl) (by rfl) ?_ hS rfl ?_
        rotate_left
        · intro w' hw
          go_simp
          try with_reducible rfl
        simp only [Act.put, List.setIfInBounds_toArray, List.set_cons_zero, List.set_cons_succ]
        refine hs_take (i := 8) (d := some 46) (v := ?_) rfl (by kernel_rfl) (by kernel_rfl) (by kernel_rfl) (by rfl) ?_ hS rfl ?_
        rotate_left
        · intro w' hw
          have := hw.cell 2 rfl
          go_simp
          try with_reducible rfl
        simp only [Act.put, List.setIfInBounds_toArray, List.set_cons_zero, List.set_cons_succ]
        refine hs_take (i := 9) (d := some 47) (v := .int .i64 tu) rfl (by kernel_rfl) (by kernel_rfl) (by kernel_rfl) (by rfl) (fun w' hw => by go_simp) hS rfl ?_
        simp only [Act.put, List.setIfInBounds_toArray, List.set_cons_zero, List.set_cons_succ]
        refine hs_call (i := 10) (d := some 48) rfl (by kernel_rfl) (by rfl) (by go_simp; first | done | exact ⟨rfl, rfl⟩ | with_reducible rfl) rfl ?_
        refine (cP).mono ?_
        rintro e' w9 ⟨v9, rfl, hM9, hB9⟩
        have hS : (fun W => JAt W j) w9 := hJ8.below hB9
        refine ⟨_, rfl, hS, ?_⟩
        simp only [Act.put, List.setIfInBounds_toArray, List.set_cons_zero, List.set_cons_succ]
        obtain ⟨a9, c9, rfl, -, -, hr9⟩ := hM9.rowAt hPl
        have cX := xframe_any 71 a9 c9 PL w9 hr9 (by omega) (by omega)
        rw [e71.out] at cX
        refine hs_call (i := 11) (d := some 49) rfl (by kernel_rfl) (by rfl) (by go_simp; first | done | exact ⟨rfl, rfl⟩ | with_reducible rfl) rfl ?_
        refine (cX).mono ?_
        rintro e' w10 ⟨v10, rfl, hM10, hB10⟩
        have hS : (fun W => JAt W j) w10 := (hJ8.below hB9).below hB10
        refine ⟨_, rfl, hS, ?_⟩
        simp only [Act.put, List.setIfInBounds_toArray, List.set_cons_zero, List.set_cons_succ]
        obtain ⟨a10, c10, rfl, -, -, hr10⟩ := hM10.rowAt hFl
        have hT10 := (hT8.below hB9).below hB10
        have cA := rl_append hT10 (fun b hb => Nat.lt_of_lt_of_le (hA8 b hb) (Nat.le_trans hB9.size hB10.size)) ar a10 c10 FL hr10 (.inr (fun x hx => by
          have := (hM10.1.lt x.block (by simp [hx, Value.ownBlock])).1
          have := (hT8.below hB9).lt
          omega))
        rw [hae.out] at cA
        simp only at cA
        have hJ10 := (hJ8.below hB9).below hB10
        refine hs_call (i := 12) (d := some 50) rfl (by kernel_rfl) (by rfl) (by go_simp; first | done | exact ⟨rfl, rfl⟩ | with_reducible rfl) rfl ?_
        refine (cA).mono ?_
        rintro e' w11 ⟨rfl, hT11, hO11⟩
        have hS : (fun W => JAt W j) w11 := hJ10.at (hO11.2 _ hJ10.lt hqr)
        refine ⟨_, rfl, hS, ?_⟩
        simp only [Act.put, List.setIfInBounds_toArray, List.set_cons_zero, List.set_cons_succ]
        refine hs_take (i := 13) (d := some 7) (v := ?_) rfl (by kernel_rfl) (by kernel_rfl) (by kernel_rfl) (by rfl) ?_ hS rfl ?_
        rotate_left
        · intro w' hw
          go_simp
          try with_reducible rfl
        simp only [Act.put, List.setIfInBounds_toArray, List.set_cons_zero, List.set_cons_succ]
        refine hs_done (by kernel_rfl) ?_
        have hJ11 : JAt w11 j := hS
        have hO12 : Off (fun b => b = j.p) w0 w11 := (((hOw.trans (Off.of_below B8) (fun _ _ q => q)).trans (Off.of_below hB9) (fun _ _ q => q)).trans (Off.of_below hB10) (fun _ _ q => q)).trans hO11 (fun _ _ q => q)
        clear hT8 hTw hJ8 hJ10 cA cX cP hM9 hr9 hM10 hr10 hO11 hB9 hB10 B8 hS hOw hJw hT10
        by_cases haE : aE = 0
        rotate_left
        · have hz0 : (aE == 0) = false := by simpa using haE
          have HF : Hid (we = (aE, Ma)) := hide (by rw [← HW2.out]; unfold onward; rw [if_neg haE])
          clear haE
          go_wp2
          go_ret
          exact ⟨by rw [HF.out]; rfl, by rw [HF.out]; exact ⟨hT11, hJ11, hO12⟩⟩
        · subst haE
          have HF : Hid (we = Ma.sync ar) := hide (by rw [← HW2.out]; unfold onward; rw [if_pos rfl])
          have cS := rl_sync hT11 (fun b hb => Nat.lt_of_lt_of_le (hA b hb) hO12.size) ar
          have y0 := hJ11.cell 0 rfl
          go_wp2_with fail
          refine cS.mono ?_
          rintro e w12 ⟨rfl, hT12, hO13⟩
          clear cS y0
          have HG := hide (And.intro hT12 (And.intro (hJ11.at (hO13.2 _ hJ11.lt hqr)) (hO12.trans hO13 (fun _ _ q => q))))
          clear hT12 hJ11 hO12 hO13 hT11
          go_wp2
          go_ret
          exact ⟨by rw [HF.out]; rfl, by rw [HF.out]; exact HG.out⟩
end Go.Proofs.YtfkchnjbbbhmjaaGreat.Ty
namespace Go.Proofs.YtfkchnjbbbhmjaaGreat.Ty
open Go.RowKit
open Tal
set_option maxRecDepth 100000 in
set_option maxHeartbeats 8000000 in
theorem xlay_any (j : Jv) (M : Mt) (A : Nat → Prop) (ra : Option Addr) (rc : Nat) (rs : List Rc) (w0 : World) (h : JAt w0 j) (hj : j.ok) (hT : RLive A w0 j.p M) (hA : ∀ b, A b → b < w0.heap.size) (hAq : A j.q) (hqr : ¬ (j.q = j.p))
    (hr : RowOf Rc.cells w0 ra rs) (hl : rs.length ≤ 100000000) (hrA : rs = [] ∨ ∀ x, ra = some x → x.block ≠ j.p) (hrs : ∀ r ∈ rs, RowAt w0 r.a r.zs ∧ (r.zs = [] ∨ ∀ x, r.a = some x → x.block ≠ j.p)) :
    Calls Tryz.prog 36 #[jptr j, .slice ra rs.length rc] w0 fun e w' => e = .returned (.int .i64 (layM M j rs).e) ∧ RLive A w' j.p (layM M j rs).M ∧ JAt w' (layM M j rs).j ∧ Off (fun b => b = j.p ∨ b = j.q) w0 w' := by
  have cO := xon_any j M A w0 h hT
  have ha0 := hj.a0
  have ha1 := hj.a1
  have ht0 := hj.t0
  have ht1 := hj.t1
  have offm : ∀ {w w' : World}, Off (fun b => b = j.p) w w' → Off (fun b => b = j.p ∨ b = j.q) w w' := fun h => h.mono (fun _ _ q => .inl q)
  unfold layM
  cases hon : M.jon j.fs
  · rw [hon] at cO
    have HE : Hid (takesE false rs = 150) := hide rfl
    rw [HE.out, if_neg (by omega)]
    unfold jptr at *
    clear hon HE
    go_enter Tryz.func36, Tryz.ntmps36
    go_wp2_with fail
    refine cO.mono ?_
    rintro e w1 ⟨rfl, hB1⟩
    clear cO
    have HF := hide (And.intro (hT.below hB1) (And.intro (h.below hB1) (Off.of_below (F := fun b => b = j.p ∨ b = j.q) hB1)))
    clear h hT
    go_wp2
    go_ret
    exact ⟨rfl, HF.out⟩
  rw [hon] at cO
  have HTE : Hid (takesE true rs = if ∀ r ∈ rs, r.zs.length ≤ 4194304 then 0 else 3) := hide rfl
  rw [HTE.out]
  clear hon HTE
  obtain ⟨L, hL⟩ : ∃ L : LayR, Hid ((if (if ∀ r ∈ rs, r.zs.length ≤ 4194304 then (0 : Int) else 3) = 0 then if 1099511627776 ≤ j.tu then (⟨2, M, j⟩ : LayR) else layW j (writeM M (1 - j.ar) (j.tu + 1) (rs.map Rc.zs)) else ⟨(if ∀ r ∈ rs, r.zs.length ≤ 4194304 then (0 : Int) else 3), M, j⟩) = L) := ⟨_, hide rfl⟩
  rw [hL.out]
  unfold jptr at *
  go_enter Tryz.func36, Tryz.ntmps36
  go_wp2_with fail
  refine cO.mono ?_
  rintro e w1 ⟨rfl, hB1⟩
  clear cO
  go_wp2_with fail
  go_loopw [5] (fun iv wr => ∃ k : Nat, k ≤ rs.length ∧ iv = .int .i64 (k : Int) ∧ wr = w1 ∧ Hid (∀ i (hi : i < rs.length), i < k → rs[i].zs.length ≤ 4194304)) (fun iv _ => rs.length - (intOf iv).toNat)
  case atStart => exact ⟨0, by omega, rfl, rfl, hide (fun i _ q => by omega)⟩
  case round =>
    obtain ⟨k, hk, rfl, rfl, HK⟩ := hrel
    by_cases hlt : k < rs.length
    · have hltI : (k : Int) < (rs.length : Int) := by omega
      obtain ⟨rb, off, rfl, hrb, hre0⟩ := (hr.below hB1).elem (k := 1) (fun _ _ => rfl) k hlt
      have c0 : wr.cell? ⟨rb, off + k, none⟩ = some (.slice rs[k].a rs[k].zs.length rs[k].cap) := by
        have := hre0 0 _ rfl
        simpa using this
      obtain ⟨y, hy⟩ : ∃ y, Hid (rs[k] = y) := ⟨_, hide rfl⟩
      rw [hy.out] at c0
      obtain ⟨ya, yc, yz⟩ := y
      simp only at c0
      clear hre0
      by_cases hbig : 4194304 < yz.length
      · have hbI : (4194304 : Int) < (yz.length : Int) := by omega
        have HF : Hid (L = ⟨3, M, j⟩) := hide (by
          have hn : ¬ ∀ r ∈ rs, r.zs.length ≤ 4194304 := fun q => by
            have := q _ (List.getElem_mem hlt)
            rw [hy.out] at this
            simp only at this
            omega
          rw [← hL.out, if_neg hn, if_neg (by omega)])
        have HG := hide (And.intro (hT.below hB1) (And.intro (h.below hB1) (Off.of_below (F := fun b => b = j.p ∨ b = j.q) hB1)))
        clear h hT hbig
        go_wp2
        go_ret
        exact ⟨by rw [HF.out]; rfl, by rw [HF.out]; exact HG.out⟩
      · have hbI : ¬ (4194304 : Int) < (yz.length : Int) := by omega
        have HK2 : Hid (∀ i (hi : i < rs.length), i < k + 1 → rs[i].zs.length ≤ 4194304) := hide (fun i hi q => by
          by_cases e : i = k
          · subst e; rw [hy.out]; simp only; omega
          · exact HK.out i hi (by omega))
        clear hbig
        go_wp2
        go_roundw
        case rel => exact ⟨k + 1, by omega, by go_num, by first | rfl | trivial, HK2⟩
        case measure => simp [intOf]; omega
    · obtain rfl : k = rs.length := by omega
      have hall : ∀ r ∈ rs, r.zs.length ≤ 4194304 := fun r hm => by
        obtain ⟨i, hi, rfl⟩ := List.mem_iff_getElem.1 hm
        exact HK.out i hi hi
      have HL : Hid (L = if 1099511627776 ≤ j.tu then (⟨2, M, j⟩ : LayR) else layW j (writeM M (1 - j.ar) (j.tu + 1) (rs.map Rc.zs))) := hide (by rw [← hL.out, if_pos hall, if_pos rfl])
      clear hL HK
      have hJ1 := h.below hB1
      have hT1 := hT.below hB1
      have x1 := hJ1.cell 1 rfl
      have x2 := hJ1.cell 2 rfl
      by_cases htm : 1099511627776 ≤ j.tu
      · have HF : Hid (L = ⟨2, M, j⟩) := hide (by rw [HL.out, if_pos htm])
        have HG := hide (And.intro hT1 (And.intro hJ1 (Off.of_below (F := fun b => b = j.p ∨ b = j.q) hB1)))
        clear h hT hT1 hJ1
        go_wp2
        go_ret
        exact ⟨by rw [HF.out]; rfl, by rw [HF.out]; exact HG.out⟩
      have cW := xwrite_any j M A (1 - j.ar) ra rc rs wr hJ1 hT1 (fun b hb => Nat.lt_of_lt_of_le (hA b hb) hB1.size) hqr ⟨ht0, by omega⟩ (hr.below hB1) hl hrA (fun r hrm => ⟨(hrs r hrm).1.below hB1, hall r hrm, (hrs r hrm).2⟩)
      obtain ⟨we, hwe⟩ : ∃ we, Hid (writeM M (1 - j.ar) (j.tu + 1) (rs.map Rc.zs) = we) := ⟨_, hide rfl⟩
      obtain ⟨wE, Mw⟩ := we
      rw [hwe.out] at cW
      unfold jptr at cW
      simp only at cW
      obtain ⟨ot, hot⟩ : ∃ ot, Hid (1 - j.ar = ot) := ⟨_, hide rfl⟩
      have W1 : (1 : Int) - j.ar = ot := hot.out
      have hob : 0 ≤ ot ∧ ot ≤ 1 := by omega
      obtain ⟨nt, hnt⟩ : ∃ nt, Hid (j.tu + 1 = nt) := ⟨_, hide rfl⟩
      have HL2 : Hid (L = if wE = 0 then ⟨0, Mw, { j with ar := ot, tu := nt }⟩ else if wE = 151 then if (Mw.empty ot).1 = 0 then ⟨151, (Mw.empty ot).2, j⟩ else ⟨(Mw.empty ot).1, (Mw.empty ot).2, j⟩ else ⟨wE, Mw, j⟩) := hide (by
        rw [HL.out, if_neg htm, hwe.out]
        unfold layW
        rw [hot.out, hnt.out])
      rw [hot.out] at cW
      have htI : ¬ (1099511627776 : Int) ≤ j.tu := htm
      clear HL hwe hot hall htm
      go_wp2_with fail
      refine cW.mono ?_
      rintro e w3 ⟨rfl, hT3, hJ3, hO3⟩
      clear cW x1 x2
      have hO03 : Off (fun b => b = j.p ∨ b = j.q) w0 w3 := (Off.of_below hB1).trans (offm hO3) (fun _ _ q => q)
      by_cases hw0 : wE = 0
      · subst hw0
        have HF : Hid (L = ⟨0, Mw, { j with ar := ot, tu := nt }⟩) := hide (by rw [HL2.out, if_pos rfl])
        have y1 := hJ3.cell 1 rfl
        have y2 := hJ3.cell 2 rfl
        have f1 : w3.frozen? ⟨j.q, 1, none⟩ = false := by have := (hJ3.th 1 (by omega)).2; rwa [Nat.zero_add] at this
        have f2 : w3.frozen? ⟨j.q, 2, none⟩ = false := by have := (hJ3.th 2 (by omega)).2; rwa [Nat.zero_add] at this
        have NT : j.tu + 1 = nt := hnt.out
        have HG : Hid (RLive A ((w3.setCell ⟨j.q, 1, none⟩ (.int .i64 ot)).setCell ⟨j.q, 2, none⟩ (.int .i64 nt)) j.p Mw ∧ JAt ((w3.setCell ⟨j.q, 1, none⟩ (.int .i64 ot)).setCell ⟨j.q, 2, none⟩ (.int .i64 nt)) { j with ar := ot, tu := nt } ∧ Off (fun b => b = j.p ∨ b = j.q) w0 ((w3.setCell ⟨j.q, 1, none⟩ (.int .i64 ot)).setCell ⟨j.q, 2, none⟩ (.int .i64 nt))) := hide (by
          have o1 : Off (fun b => b = j.q) w3 ((w3.setCell ⟨j.q, 1, none⟩ (.int .i64 ot)).setCell ⟨j.q, 2, none⟩ (.int .i64 nt)) := (Off.of_setCell (F := fun b => b = j.q) w3 _ _ rfl).trans (Off.of_setCell (F := fun b => b = j.q) _ _ _ rfl) (fun _ _ q => q)
          exact ⟨hT3.off o1 (fun b q => by rw [q]; exact hAq), hJ3.turned ot nt, hO03.trans (o1.mono (fun _ _ q => .inr q)) (fun _ _ q => q)⟩)
        clear hT3 hJ3 hO3 h hT hO03 hT1 hJ1
        go_wp2
        go_ret
        exact ⟨by rw [HF.out]; rfl, by rw [HF.out]; exact HG.out⟩
      have hz0 : (wE == 0) = false := by simpa using hw0
      by_cases hw1 : wE = 151
      · subst hw1
        obtain ⟨ce, hce⟩ : ∃ ce, Hid (Mw.empty ot = ce) := ⟨_, hide rfl⟩
        obtain ⟨cE, Mc⟩ := ce
        have cC := rl_clear hT3 (fun b hb => Nat.lt_of_lt_of_le (hA b hb) hO03.size) ot
        rw [hce.out] at cC
        have y0 := hJ3.cell 0 rfl
        have HL3 : Hid (L = if cE = 0 then ⟨151, Mc, j⟩ else ⟨cE, Mc, j⟩) := hide (by rw [HL2.out, if_neg hw0, if_pos rfl, hce.out])
        clear HL2 hce hw0 hz0
        go_wp2_with fail
        refine cC.mono ?_
        rintro e w4 ⟨rfl, hT4, hO4⟩
        clear cC y0
        have HG := hide (And.intro hT4 (And.intro (hJ3.at (hO4.2 _ hJ3.lt hqr)) (hO03.trans (offm hO4) (fun _ _ q => q))))
        clear hT4 hJ3 hO3 h hT hO4 hT3 hO03 hT1 hJ1
        by_cases hcE : cE = 0
        · subst hcE
          have HF : Hid (L = ⟨151, Mc, j⟩) := hide (by rw [HL3.out, if_pos rfl])
          go_wp2
          go_ret
          exact ⟨by rw [HF.out]; rfl, by rw [HF.out]; exact HG.out⟩
        · have hc0 : (cE == 0) = false := by simpa using hcE
          have HF : Hid (L = ⟨cE, Mc, j⟩) := hide (by rw [HL3.out, if_neg hcE])
          clear hcE
          go_wp2
          go_ret
          exact ⟨by rw [HF.out]; rfl, by rw [HF.out]; exact HG.out⟩
      · have hz1 : (wE == 151) = false := by simpa using hw1
        have HF : Hid (L = ⟨wE, Mw, j⟩) := hide (by rw [HL2.out, if_neg hw0, if_neg hw1])
        have HG := hide (And.intro hT3 (And.intro hJ3 hO03))
        clear hT3 hJ3 hO3 h hT hw0 hw1 hO03 hT1 hJ1
        go_wp2
        go_ret
        exact ⟨by rw [HF.out]; rfl, by rw [HF.out]; exact HG.out⟩
end Go.Proofs.YtfkchnjbbbhmjaaGreat.Ty
