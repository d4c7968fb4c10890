/- small words on pools the document's pool: New, Has, In the document's ahead and Meet; pairsOf the document's busy and Pick the document's Pick -/
import Derived.Test.YtbfcbjjhdadicaaDoorP16
namespace Go.Proofs.YtbfcbjjhdadicaaDoor
open Go.RowKit
open Sha Tal
theorem fld0 (v : Value) (w : World) : (Instr.field 54 (.agg #[.bool false, v]) 0).run Tryd.prog w = .ok (.bool false) w := by kernel_rfl
theorem umod16 (z : Int) : ∃ k : Nat, 1 ≤ k ∧ k ≤ 16 ∧ wrap64 (1 + wrap64 ((IntKind.u64.wrap z).tmod 16)) = (k : Int) := by
  rw [IntKind.wrap_u64]
  have h0 : 0 ≤ z % 18446744073709551616 := Int.emod_nonneg _ (by decide)
  generalize z % 18446744073709551616 = q at h0
  rw [Int.tmod_eq_emod_of_nonneg h0]
  have h1 := Int.emod_nonneg q (b := 16) (by omega)
  have h2 := Int.emod_lt_of_pos q (b := 16) (by omega)
  generalize q % 16 = r at h1 h2
  refine ⟨(1 + r).toNat, by omega, by omega, ?_⟩
  simp only [wrap64]
  omega
theorem flat_nodup {ls : List (List Rq)} (h : (flatP ls).Nodup) {l : List Rq} (hl : l ∈ ls) : (l.map pk).Nodup := by
  unfold flatP at h
  induction ls with
  | nil => cases hl
  | cons a ls ih =>
    rw [List.flatten_cons, List.map_append] at h
    have h2 := List.nodup_append.1 h
    rcases List.mem_cons.1 hl with rfl | hl
    · exact h2.1
    · exact ih h2.2.1 hl
theorem flat_take {ls : List (List Rq)} {b : Nat} {l : List Rq} (hl : ls[b]? = some l) : (flatP (ls.take b)).length + l.length = (flatP (ls.take (b + 1))).length := by
  have hb := (List.getElem?_eq_some_iff.1 hl).1
  have he : ls[b] = l := (List.getElem?_eq_some_iff.1 hl).2
  rw [List.take_succ_eq_append_getElem hb, he]
  simp [flatP]
theorem flat_take_le (ls : List (List Rq)) (b : Nat) : (flatP (ls.take b)).length ≤ (flatP ls).length := by
  have : ls = ls.take b ++ ls.drop b := (List.take_append_drop b ls).symm
  have e : (flatP ls).length = (flatP (ls.take b)).length + (flatP (ls.drop b)).length := by
    have := congrArg (fun x => (flatP x).length) this
    simp only [flatP, List.flatten_append, List.map_append, List.length_append] at this ⊢
    exact this
  omega
theorem nodup_ne {l : List Rq} (h : (l.map pk).Nodup) {i j : Nat} (hj : j < i) (hi : i < l.length) : pk l[i] ≠ pk (l[j]'(by omega)) := by
  intro he
  have := (List.getElem_inj (i := i) (j := j) (h₀ := by simpa using hi) (h₁ := by simp; omega) h).1 (by simpa using he)
  omega
theorem add_zero {room : Nat} {ls : List (List Rq)} {r : Rq} (h : addE room ls r = 0) : ¬ pk r ∈ flatP ls ∧ addL room ls r = ls.set (bkt ls.length r) (ls.getD (bkt ls.length r) [] ++ [r]) := by
  refine ⟨fun hm => ?_, by unfold addL; rw [if_pos h]⟩
  unfold addE at h
  split at h
  · omega
  · first | omega | (rw [if_pos hm] at h; omega)
theorem add_grow {room : Nat} {ls : List (List Rq)} {r : Rq} (hk : 0 < ls.length) (h : addE room ls r = 0) : (flatP (addL room ls r)).length = (flatP ls).length + 1 ∧ pk r ∈ flatP (addL room ls r) := by
  have hb := (bkt_lt r hk).1
  have hl : ls[bkt ls.length r]? = some (ls.getD (bkt ls.length r) []) := by simp [List.getD, hb]
  have hp := flat_perm hl r
  rw [(add_zero h).2]
  exact ⟨by rw [← hp.length_eq]; simp, hp.mem_iff.1 (by simp)⟩
end Go.Proofs.YtbfcbjjhdadicaaDoor
namespace Go.Proofs.YtbfcbjjhdadicaaDoor
open Go.RowKit
open Sha Tal
/-- the document's pool in memory -/
structure RefAt (w : World) (rp : Nat) (k room : Nat) (a : Option Addr) (cap : Nat) (L : List Rq) : Prop where
  c0 : w.cell? ⟨rp, 0, none⟩ = some (.int .i64 (k : Int))
  c1 : w.cell? ⟨rp, 1, none⟩ = some (.int .i64 (room : Int))
  c2 : w.cell? ⟨rp, 2, none⟩ = some (.slice a L.length cap)
  th : w.there rp 0 3
  row : ReqsAt w a L
  ne : ∀ x, a = some x → x.block ≠ rp
  bl : ∀ x, a = some x → x.block < w.heap.size
theorem RefAt.lt {w : World} {rp k room : Nat} {a : Option Addr} {cap : Nat} {L : List Rq} (h : RefAt w rp k room a cap L) : rp < w.heap.size := cell_lt h.c0
theorem RefAt.below {w w' : World} {rp k room : Nat} {a : Option Addr} {cap : Nat} {L : List Rq} (h : RefAt w rp k room a cap L) (hb : Below w.heap.size w w') : RefAt w' rp k room a cap L :=
  ⟨cell_at h.c0 (hb.block _ h.lt), cell_at h.c1 (hb.block _ h.lt), cell_at h.c2 (hb.block _ h.lt), there_at h.th (hb.block _ h.lt), h.row.below hb, h.ne, fun x hx => Nat.lt_of_lt_of_le (h.bl x hx) hb.size⟩
def rptr (rp : Nat) : Value := .pointer (some ⟨rp, 0, none⟩)
set_option maxRecDepth 100000 in
set_option maxHeartbeats 2000000 in
theorem rnew_yes (B R : Nat) (w : World) (h1 : 0 < B) (h2 : B ≤ 64) (h3 : 0 < R) (h4 : R ≤ 16) :
    Calls Tryd.prog 9 #[.int .i64 (B : Int), .int .i64 (R : Int)] w fun e w' => e = .returned (.tuple #[rptr w.heap.size, .int .i64 0]) ∧ w' = w.alloc (.cells #[.int .i64 (B : Int), .int .i64 (R : Int), .slice none 0 0] 45) := by
  have a1 : ¬ (B : Int) < 1 := by omega
  have a2 : ¬ (64 : Int) < (B : Int) := by omega
  have a3 : ¬ (R : Int) < 1 := by omega
  have a4 : ¬ (16 : Int) < (R : Int) := by omega
  unfold rptr
  clear h1 h2 h3 h4
  go_enter Tryd.func9, Tryd.ntmps9
  go_wp2_with fail
  go_ret2
  exact ⟨rfl, rfl⟩
theorem rnew_at (B R : Nat) (w : World) : RefAt (w.alloc (.cells #[.int .i64 (B : Int), .int .i64 (R : Int), .slice none 0 0] 45)) w.heap.size B R none 0 [] := by
  have r := range_new w #[.int .i64 (B : Int), .int .i64 (R : Int), .slice none 0 0] 45
  exact ⟨r 0 _ rfl, r 1 _ rfl, r 2 _ rfl, there_new w #[.int .i64 (B : Int), .int .i64 (R : Int), .slice none 0 0] 45, ReqsAt.none, (fun x hx => by cases hx), (fun x hx => by cases hx)⟩
set_option maxRecDepth 100000 in
set_option maxHeartbeats 2000000 in
theorem rnew_no (B R : Int) (w : World) (h : B < 1 ∨ 64 < B ∨ R < 1 ∨ 16 < R) :
    Calls Tryd.prog 9 #[.int .i64 B, .int .i64 R] w fun e w' => e = .returned (.tuple #[.pointer none, .int .i64 2]) ∧ w' = w := by
  by_cases a1 : B < 1
  · clear h
    go_enter Tryd.func9, Tryd.ntmps9
    go_wp2_with fail
    go_ret2
    exact ⟨rfl, rfl⟩
  · by_cases a2 : 64 < B
    · clear h
      go_enter Tryd.func9, Tryd.ntmps9
      go_wp2_with fail
      go_ret2
      exact ⟨rfl, rfl⟩
    · by_cases a3 : R < 1
      · clear h
        go_enter Tryd.func9, Tryd.ntmps9
        go_wp2_with fail
        go_ret2
        exact ⟨rfl, rfl⟩
      · have a4 : 16 < R := by omega
        clear h
        go_enter Tryd.func9, Tryd.ntmps9
        go_wp2_with fail
        go_ret2
        exact ⟨rfl, rfl⟩
set_option maxRecDepth 100000 in
set_option maxHeartbeats 2000000 in
theorem rhas_any (rp k room : Nat) (a : Option Addr) (cap : Nat) (L : List Rq) (c n : Int) (w : World) (h : RefAt w rp k room a cap L) :
    Calls Tryd.prog 15 #[rptr rp, .int .i64 c, .int .i64 n] w fun e w' => e = .returned (.bool (decide ((c, n) ∈ L.map pk))) ∧ Below w.heap.size w w' := by
  have hLl := h.row.1
  unfold maxLen at hLl
  obtain ⟨D, hD⟩ : ∃ D, Hid (decide ((c, n) ∈ L.map pk) = D) := ⟨_, hide rfl⟩
  rw [hD.out]
  unfold rptr
  go_enter Tryd.func15, Tryd.ntmps15
  go_wp2_with fail
  go_loopw [7] (fun iv wr => ∃ i : Nat, i ≤ L.length ∧ iv = .int .i64 (i : Int) ∧ Hid (∀ r ∈ L.take i, pk r ≠ (c, n)) ∧ Below w.heap.size w wr) (fun iv _ => L.length - (intOf iv).toNat)
  case atStart => exact ⟨0, by omega, rfl, hide (fun r hr => by simp at hr), Below.refl _ _⟩
  case round =>
    obtain ⟨i, hi, rfl, HN, hB⟩ := hrel
    have hr := h.below hB
    have c2 := hr.c2
    by_cases hlt : i < L.length
    · have i1 : (i : Int) < (L.length : Int) := by omega
      obtain ⟨b, off, rfl, hb, hre⟩ := hr.row.elem i hlt
      have HT := hide (List.take_succ_eq_append_getElem hlt)
      have hmem : L[i] ∈ L := List.getElem_mem hlt
      have d0 : wr.cell? ⟨b, off + i * 19, none⟩ = some (.int .i64 L[i].c) := hre 0 _ rfl
      have d1 : wr.cell? ⟨b, off + i * 19 + 1, none⟩ = some (.int .i64 L[i].n) := hre 1 _ rfl
      clear hre hr
      generalize L[i] = r at *
      by_cases hcc : r.c = c
      · by_cases hnn : r.n = n
        · have HD : Hid (D = true) := hide (hD.out.symm.trans (decide_eq_true (List.mem_map.2 ⟨r, hmem, by unfold pk; rw [hcc, hnn]⟩)))
          have hb1 : (r.c == c) = true := by simpa using hcc
          have hb2 : (r.n == n) = true := by simpa using hnn
          clear hcc hnn HN HT
          go_wp2_with fail
          go_ret
          exact ⟨by rw [HD.out]; rfl, hB⟩
        · have hb1 : (r.c == c) = true := by simpa using hcc
          have hb2 : (r.n == n) = false := by simpa using hnn
          have HN2 : Hid (∀ x ∈ L.take (i + 1), pk x ≠ (c, n)) := hide (fun x hx => by
            rw [HT.out] at hx
            rcases List.mem_append.1 hx with q | q
            · exact HN.out x q
            · rw [List.mem_singleton.1 q]
              intro e
              unfold pk at e
              injection e with e1 e2
              exact hnn e2)
          clear hcc hnn HN HT
          go_wp2_with fail
          go_roundw
          case rel => exact ⟨i + 1, by omega, by go_num, HN2, hB⟩
          case measure => simp [intOf]; omega
      · have hb1 : (r.c == c) = false := by simpa using hcc
        have HN2 : Hid (∀ x ∈ L.take (i + 1), pk x ≠ (c, n)) := hide (fun x hx => by
          rw [HT.out] at hx
          rcases List.mem_append.1 hx with q | q
          · exact HN.out x q
          · rw [List.mem_singleton.1 q]
            intro e
            unfold pk at e
            injection e with e1 e2
            exact hcc e1)
        clear hcc HN HT
        go_wp2_with fail
        go_roundw
        case rel => exact ⟨i + 1, by omega, by go_num, HN2, hB⟩
        case measure => simp [intOf]; omega
    · have i1 : ¬ (i : Int) < (L.length : Int) := by omega
      have HD : Hid (D = false) := hide (hD.out.symm.trans (decide_eq_false (fun q => by
        obtain ⟨r, hr, he⟩ := List.mem_map.1 q
        have := HN.out r (by rw [List.take_of_length_le (by omega)]; exact hr)
        exact this he)))
      clear HN hr
      go_wp2_with fail
      go_ret
      exact ⟨by rw [HD.out]; rfl, hB⟩
def inB (k : Nat) (z : Int) (r : Rq) : Bool := decide (bucketV r.c r.n (k : Int) = z)
set_option maxRecDepth 100000 in
set_option maxHeartbeats 2000000 in
theorem rin_any (rp k room : Nat) (a : Option Addr) (cap : Nat) (L : List Rq) (z : Int) (w : World) (h : RefAt w rp k room a cap L) (hk : k ≤ 64) (hL : L.length ≤ 100000) :
    Calls Tryd.prog 18 #[rptr rp, .int .i64 z] w fun e w' => ∃ v, e = .returned v ∧ w'.ownsRow w.heap.size 35 19 v (L.filter (inB k z)).length (flatR (L.filter (inB k z))) ∧ Below w.heap.size w w' := by
  have hkw : (Lit.int .i64 (k : Int)).wf = true := by simp [Lit.wf, IntKind.min, IntKind.max, IntKind.signed, IntKind.bits]; omega
  unfold rptr
  go_enter Tryd.func18, Tryd.ntmps18
  go_wp2_with fail
  go_loopw [5, 6] (fun v iv wr => ∃ (i : Nat) (out : List Rq), i ≤ L.length ∧ iv = .int .i64 (i : Int) ∧ Hid (out = (L.take i).filter (inB k z)) ∧ out.length ≤ i ∧ wr.ownsRow w.heap.size 35 19 v out.length (flatR out) ∧ Below w.heap.size w wr) (fun _ iv _ => L.length - (intOf iv).toNat)
  case atStart => exact ⟨0, [], by omega, rfl, hide (by simp), by simp, World.ownsRow_nil _ _ _ _, Below.refl _ _⟩
  case round =>
    obtain ⟨i, out, hi, rfl, HO, hol, ho, hB⟩ := hrel
    have hr := h.below hB
    have c2 := hr.c2
    have c0 := hr.c0
    by_cases hlt : i < L.length
    · have i1 : (i : Int) < (L.length : Int) := by omega
      obtain ⟨b, off, rfl, hb, hre⟩ := hr.row.elem i hlt
      have HT := hide (List.take_succ_eq_append_getElem hlt)
      have hok := hr.row.2.1 _ (List.getElem_mem hlt)
      generalize L[i] = r at *
      have hiu := hok.isz
      have hul := hok.length
      have hu1 := r.one
      have cb := fun W => refBucket_any r.c r.n (k : Int) W hok.ch hok.nh hkw
      obtain ⟨va, vcap, rfl⟩ := owns_slice ho
      have hrp := hr.lt
      go_upto_region 5 with fail
      obtain ⟨w8, hw8⟩ : ∃ w8, wr.drew = w8 := ⟨_, rfl⟩
      have hB8 : Below wr.heap.size wr w8 := by rw [← hw8]; exact (Below.refl _ _).drew
      have q0 := range_below hre hB8 hb
      have hb8 : b < w8.heap.size := Nat.lt_of_lt_of_le hb hB8.size
      have e0 : ∀ w', Below w8.heap.size w8 w' → w'.cell? ⟨b, off + i * 19, none⟩ = some (.int .i64 r.c) := fun w' hw' => (range_below q0 hw' hb8) 0 _ rfl
      have e1 : ∀ w', Below w8.heap.size w8 w' → w'.cell? ⟨b, off + i * 19 + 1, none⟩ = some (.int .i64 r.n) := fun w' hw' => (range_below q0 hw' hb8) 1 _ rfl
      have k2 : ∀ w', Below w8.heap.size w8 w' → w'.cell? ⟨rp, 2, none⟩ = some (.slice (some ⟨b, off, none⟩) L.length cap) := fun w' hw' => cell_at c2 ((hB8.trans (hw'.mono hB8.size)).block _ hrp)
      have k0 : ∀ w', Below w8.heap.size w8 w' → w'.cell? ⟨rp, 0, none⟩ = some (.int .i64 (k : Int)) := fun w' hw' => cell_at c0 ((hB8.trans (hw'.mono hB8.size)).block _ hrp)
      clear hr
      obtain ⟨Bv, hBv⟩ : ∃ Bv, Hid (bucketV r.c r.n (k : Int) = Bv) := ⟨_, hide rfl⟩
      simp only [hBv.out] at cb
      by_cases hz : Bv = z
      · have hbz : (Bv == z) = true := by simpa using hz
        have HO2 : Hid (out ++ [r] = (L.take (i + 1)).filter (inB k z)) := hide (by rw [HT.out, List.filter_append, ← HO.out]; simp [inB, hBv.out, hz])
        clear hz HO HT
        refine hs_begin (S := (Below w8.heap.size w8)) 23 rfl (by kernel_rfl) ?_
        rw [hw8]
        clear hw8
        have hS : (Below w8.heap.size w8) w8 := Below.refl _ _
        refine hs_take (i := 0) (d := some 16) (v := ?_) rfl (by kernel_rfl) (by kernel_rfl) (by kernel_rfl) (by rfl) ?_ hS rfl ?_
        rotate_left
        · intro w' hw
          go_simp
          try with_reducible rfl
        simp only [Act.put, List.setIfInBounds_toArray, List.set_cons_zero, List.set_cons_succ]
        refine hs_take (i := 1) (d := some 17) (v := ?_) rfl (by kernel_rfl) (by kernel_rfl) (by kernel_rfl) (by rfl) ?_ hS rfl ?_
        rotate_left
        · intro w' hw
          go_simp
          try with_reducible rfl
        simp only [Act.put, List.setIfInBounds_toArray, List.set_cons_zero, List.set_cons_succ]
        refine hs_take (i := 2) (d := some 18) (v := ?_) rfl (by kernel_rfl) (by kernel_rfl) (by kernel_rfl) (by rfl) ?_ hS rfl ?_
        rotate_left
        · intro w' hw
          go_simp
          try with_reducible rfl
        simp only [Act.put, List.setIfInBounds_toArray, List.set_cons_zero, List.set_cons_succ]
        refine hs_take (i := 3) (d := some 19) (v := ?_) rfl (by kernel_rfl) (by kernel_rfl) (by kernel_rfl) (by rfl) ?_ hS rfl ?_
        rotate_left
        · intro w' hw
          have hc := k2 w' hw
          go_simp
          try with_reducible rfl
        simp only [Act.put, List.setIfInBounds_toArray, List.set_cons_zero, List.set_cons_succ]
        refine hs_take (i := 4) (d := some 20) (v := ?_) rfl (by kernel_rfl) (by kernel_rfl) (by kernel_rfl) (by rfl) ?_ hS rfl ?_
        rotate_left
        · intro w' hw
          go_simp
          try with_reducible rfl
        simp only [Act.put, List.setIfInBounds_toArray, List.set_cons_zero, List.set_cons_succ]
        refine hs_take (i := 5) (d := some 21) (v := ?_) rfl (by kernel_rfl) (by kernel_rfl) (by kernel_rfl) (by rfl) ?_ hS rfl ?_
        rotate_left
        · intro w' hw
          go_simp
          try with_reducible rfl
        simp only [Act.put, List.setIfInBounds_toArray, List.set_cons_zero, List.set_cons_succ]
        refine hs_take (i := 6) (d := some 22) (v := ?_) rfl (by kernel_rfl) (by kernel_rfl) (by kernel_rfl) (by rfl) ?_ hS rfl ?_
        rotate_left
        · intro w' hw
          go_simp
          try with_reducible rfl
        simp only [Act.put, List.setIfInBounds_toArray, List.set_cons_zero, List.set_cons_succ]
        refine hs_take (i := 7) (d := some 23) (v := ?_) rfl (by kernel_rfl) (by kernel_rfl) (by kernel_rfl) (by rfl) ?_ hS rfl ?_
        rotate_left
        · intro w' hw
          have hc := e0 w' hw
          go_simp
          try with_reducible rfl
        simp only [Act.put, List.setIfInBounds_toArray, List.set_cons_zero, List.set_cons_succ]
        refine hs_take (i := 8) (d := some 24) (v := ?_) rfl (by kernel_rfl) (by kernel_rfl) (by kernel_rfl) (by rfl) ?_ hS rfl ?_
        rotate_left
        · intro w' hw
          go_simp
          try with_reducible rfl
        simp only [Act.put, List.setIfInBounds_toArray, List.set_cons_zero, List.set_cons_succ]
        refine hs_take (i := 9) (d := some 25) (v := ?_) rfl (by kernel_rfl) (by kernel_rfl) (by kernel_rfl) (by rfl) ?_ hS rfl ?_
        rotate_left
        · intro w' hw
          go_simp
          try with_reducible rfl
        simp only [Act.put, List.setIfInBounds_toArray, List.set_cons_zero, List.set_cons_succ]
        refine hs_take (i := 10) (d := some 26) (v := ?_) rfl (by kernel_rfl) (by kernel_rfl) (by kernel_rfl) (by rfl) ?_ hS rfl ?_
        rotate_left
        · intro w' hw
          go_simp
          try with_reducible rfl
        simp only [Act.put, List.setIfInBounds_toArray, List.set_cons_zero, List.set_cons_succ]
        refine hs_take (i := 11) (d := some 27) (v := ?_) rfl (by kernel_rfl) (by kernel_rfl) (by kernel_rfl) (by rfl) ?_ hS rfl ?_
        rotate_left
        · intro w' hw
          have hc := k2 w' hw
          go_simp
          try with_reducible rfl
        simp only [Act.put, List.setIfInBounds_toArray, List.set_cons_zero, List.set_cons_succ]
        refine hs_take (i := 12) (d := some 28) (v := ?_) rfl (by kernel_rfl) (by kernel_rfl) (by kernel_rfl) (by rfl) ?_ hS rfl ?_
        rotate_left
        · intro w' hw
          go_simp
          try with_reducible rfl
        simp only [Act.put, List.setIfInBounds_toArray, List.set_cons_zero, List.set_cons_succ]
        refine hs_take (i := 13) (d := some 29) (v := ?_) rfl (by kernel_rfl) (by kernel_rfl) (by kernel_rfl) (by rfl) ?_ hS rfl ?_
        rotate_left
        · intro w' hw
          go_simp
          try with_reducible rfl
        simp only [Act.put, List.setIfInBounds_toArray, List.set_cons_zero, List.set_cons_succ]
        refine hs_take (i := 14) (d := some 30) (v := ?_) rfl (by kernel_rfl) (by kernel_rfl) (by kernel_rfl) (by rfl) ?_ hS rfl ?_
        rotate_left
        · intro w' hw
          go_simp
          try with_reducible rfl
        simp only [Act.put, List.setIfInBounds_toArray, List.set_cons_zero, List.set_cons_succ]
        refine hs_take (i := 15) (d := some 31) (v := ?_) rfl (by kernel_rfl) (by kernel_rfl) (by kernel_rfl) (by rfl) ?_ hS rfl ?_
        rotate_left
        · intro w' hw
          have hc := e1 w' hw
          go_simp
          try with_reducible rfl
        simp only [Act.put, List.setIfInBounds_toArray, List.set_cons_zero, List.set_cons_succ]
        refine hs_take (i := 16) (d := some 32) (v := ?_) rfl (by kernel_rfl) (by kernel_rfl) (by kernel_rfl) (by rfl) ?_ hS rfl ?_
        rotate_left
        · intro w' hw
          go_simp
          try with_reducible rfl
        simp only [Act.put, List.setIfInBounds_toArray, List.set_cons_zero, List.set_cons_succ]
        refine hs_take (i := 17) (d := some 33) (v := ?_) rfl (by kernel_rfl) (by kernel_rfl) (by kernel_rfl) (by rfl) ?_ hS rfl ?_
        rotate_left
        · intro w' hw
          go_simp
          try with_reducible rfl
        simp only [Act.put, List.setIfInBounds_toArray, List.set_cons_zero, List.set_cons_succ]
        refine hs_take (i := 18) (d := some 34) (v := ?_) rfl (by kernel_rfl) (by kernel_rfl) (by kernel_rfl) (by rfl) ?_ hS rfl ?_
        rotate_left
        · intro w' hw
          go_simp
          try with_reducible rfl
        simp only [Act.put, List.setIfInBounds_toArray, List.set_cons_zero, List.set_cons_succ]
        refine hs_take (i := 19) (d := some 35) (v := ?_) rfl (by kernel_rfl) (by kernel_rfl) (by kernel_rfl) (by rfl) ?_ hS rfl ?_
        rotate_left
        · intro w' hw
          have hc := k0 w' hw
          go_simp
          try with_reducible rfl
        simp only [Act.put, List.setIfInBounds_toArray, List.set_cons_zero, List.set_cons_succ]
        refine hs_take (i := 21) (d := some 37) (v := ?_) rfl (by kernel_rfl) (by kernel_rfl) (by kernel_rfl) (by rfl) ?_ hS rfl ?_
        rotate_left
        · intro w' hw
          go_simp
          try with_reducible rfl
        simp only [Act.put, List.setIfInBounds_toArray, List.set_cons_zero, List.set_cons_succ]
        refine hs_call (i := 20) (d := some 36) rfl (by kernel_rfl) (by rfl) (by go_simp; first | done | exact ⟨rfl, rfl⟩ | with_reducible rfl) rfl ?_
        refine (cb w8).mono ?_
        rintro e' wA ⟨rfl, hbA⟩
        have hS : (Below w8.heap.size w8) wA := hbA
        refine ⟨_, rfl, hS, ?_⟩
        simp only [Act.put, List.setIfInBounds_toArray, List.set_cons_zero, List.set_cons_succ]
        refine hs_take (i := 22) (d := some 38) (v := .bool true) rfl (by kernel_rfl) (by kernel_rfl) (by kernel_rfl) (by rfl) (fun w' hw => by go_simp) hS rfl ?_
        simp only [Act.put, List.setIfInBounds_toArray, List.set_cons_zero, List.set_cons_succ]
        refine hs_done (by kernel_rfl) ?_
        have hwA : Below wr.heap.size wr wA := hB8.trans (hS.mono hB8.size)
        have c2A := cell_at c2 (hwA.block _ hrp)
        have hreA := range_below hre hwA hb
        have hoA := ownsB ho hwA
        have hBA := hB.trans (hwA.mono hB.size)
        obtain ⟨v', wF, hrun, hoF, hgr, hap⟩ := append_reqB hBA.size hoA hul hu1 (by omega) 43
        obtain ⟨u, hu⟩ : ∃ u, Hid (r.cells = u) := ⟨_, hide rfl⟩
        rw [hu.out] at hreA hrun hoF hiu hul
        go_upto_region 6 with fail
        refine wp_region_list ?_
        refine wpList_step fun K hK => ?_
        go_simp
        refine hK _ _ ?_
        clear hK K
        refine wpList_step fun K hK => ?_
        go_simp
        refine hK _ _ ?_
        clear hK K
        refine wpList_step fun K hK => ?_
        go_simp
        refine hK _ _ ?_
        clear hK K
        refine wpList_step fun K hK => ?_
        go_simp
        refine hK _ _ ?_
        clear hK K
        refine wpList_step fun K hK => ?_
        go_simp
        refine hK _ _ ?_
        clear hK K
        refine wpList_step fun K hK => ?_
        go_simp
        refine hK _ _ ?_
        clear hK K
        refine wpList_step fun K hK => ?_
        go_simp
        refine hK _ _ ?_
        clear hK K
        refine wpList_load_mid rfl 35 _ rfl _ _ rfl u _ hreA Tryd.underlying35 rfl hiu ?_
        refine wpList_run1 rfl (exec_bs1 rfl rfl (bs_req hul wA)) ?_
        refine wpList_run1 rfl (exec_append1 rfl rfl rfl hrun) ?_
        obtain ⟨va3, vcap3, rfl⟩ := owns_slice hoF
        go_wp2_with fail
        go_roundw
        case rel =>
          refine ⟨i + 1, out ++ [r], by omega, by go_num, HO2, by simp; omega, ?_, hBA.grown hgr hBA.size (owns_base hoA)⟩
          rw [flatR_append]
          have ex : flatR [r] = u := by rw [← hu.out]; simp [flatR]
          rw [ex]
          simpa using hoF
        case measure => simp [intOf]; omega
      · have hbz : (Bv == z) = false := by simpa using hz
        have HO2 : Hid (out = (L.take (i + 1)).filter (inB k z)) := hide (by rw [HT.out, List.filter_append, ← HO.out]; simp [inB, hBv.out, hz])
        clear hz HO HT
        refine hs_begin (S := (Below w8.heap.size w8)) 23 rfl (by kernel_rfl) ?_
        rw [hw8]
        clear hw8
        have hS : (Below w8.heap.size w8) w8 := Below.refl _ _
        refine hs_take (i := 0) (d := some 16) (v := ?_) rfl (by kernel_rfl) (by kernel_rfl) (by kernel_rfl) (by rfl) ?_ hS rfl ?_
        rotate_left
        · intro w' hw
          go_simp
          try with_reducible rfl
        simp only [Act.put, List.setIfInBounds_toArray, List.set_cons_zero, List.set_cons_succ]
        refine hs_take (i := 1) (d := some 17) (v := ?_) rfl (by kernel_rfl) (by kernel_rfl) (by kernel_rfl) (by rfl) ?_ hS rfl ?_
        rotate_left
        · intro w' hw
          go_simp
          try with_reducible rfl
        simp only [Act.put, List.setIfInBounds_toArray, List.set_cons_zero, List.set_cons_succ]
        refine hs_take (i := 2) (d := some 18) (v := ?_) rfl (by kernel_rfl) (by kernel_rfl) (by kernel_rfl) (by rfl) ?_ hS rfl ?_
        rotate_left
        · intro w' hw
          go_simp
          try with_reducible rfl
        simp only [Act.put, List.setIfInBounds_toArray, List.set_cons_zero, List.set_cons_succ]
        refine hs_take (i := 3) (d := some 19) (v := ?_) rfl (by kernel_rfl) (by kernel_rfl) (by kernel_rfl) (by rfl) ?_ hS rfl ?_
        rotate_left
        · intro w' hw
          have hc := k2 w' hw
          go_simp
          try with_reducible rfl
        simp only [Act.put, List.setIfInBounds_toArray, List.set_cons_zero, List.set_cons_succ]
        refine hs_take (i := 4) (d := some 20) (v := ?_) rfl (by kernel_rfl) (by kernel_rfl) (by kernel_rfl) (by rfl) ?_ hS rfl ?_
        rotate_left
        · intro w' hw
          go_simp
          try with_reducible rfl
        simp only [Act.put, List.setIfInBounds_toArray, List.set_cons_zero, List.set_cons_succ]
        refine hs_take (i := 5) (d := some 21) (v := ?_) rfl (by kernel_rfl) (by kernel_rfl) (by kernel_rfl) (by rfl) ?_ hS rfl ?_
        rotate_left
        · intro w' hw
          go_simp
          try with_reducible rfl
        simp only [Act.put, List.setIfInBounds_toArray, List.set_cons_zero, List.set_cons_succ]
        refine hs_take (i := 6) (d := some 22) (v := ?_) rfl (by kernel_rfl) (by kernel_rfl) (by kernel_rfl) (by rfl) ?_ hS rfl ?_
        rotate_left
        · intro w' hw
          go_simp
          try with_reducible rfl
        simp only [Act.put, List.setIfInBounds_toArray, List.set_cons_zero, List.set_cons_succ]
        refine hs_take (i := 7) (d := some 23) (v := ?_) rfl (by kernel_rfl) (by kernel_rfl) (by kernel_rfl) (by rfl) ?_ hS rfl ?_
        rotate_left
        · intro w' hw
          have hc := e0 w' hw
          go_simp
          try with_reducible rfl
        simp only [Act.put, List.setIfInBounds_toArray, List.set_cons_zero, List.set_cons_succ]
        refine hs_take (i := 8) (d := some 24) (v := ?_) rfl (by kernel_rfl) (by kernel_rfl) (by kernel_rfl) (by rfl) ?_ hS rfl ?_
        rotate_left
        · intro w' hw
          go_simp
          try with_reducible rfl
        simp only [Act.put, List.setIfInBounds_toArray, List.set_cons_zero, List.set_cons_succ]
        refine hs_take (i := 9) (d := some 25) (v := ?_) rfl (by kernel_rfl) (by kernel_rfl) (by kernel_rfl) (by rfl) ?_ hS rfl ?_
        rotate_left
        · intro w' hw
          go_simp
          try with_reducible rfl
        simp only [Act.put, List.setIfInBounds_toArray, List.set_cons_zero, List.set_cons_succ]
        refine hs_take (i := 10) (d := some 26) (v := ?_) rfl (by kernel_rfl) (by kernel_rfl) (by kernel_rfl) (by rfl) ?_ hS rfl ?_
        rotate_left
        · intro w' hw
          go_simp
          try with_reducible rfl
        simp only [Act.put, List.setIfInBounds_toArray, List.set_cons_zero, List.set_cons_succ]
        refine hs_take (i := 11) (d := some 27) (v := ?_) rfl (by kernel_rfl) (by kernel_rfl) (by kernel_rfl) (by rfl) ?_ hS rfl ?_
        rotate_left
        · intro w' hw
          have hc := k2 w' hw
          go_simp
          try with_reducible rfl
        simp only [Act.put, List.setIfInBounds_toArray, List.set_cons_zero, List.set_cons_succ]
        refine hs_take (i := 12) (d := some 28) (v := ?_) rfl (by kernel_rfl) (by kernel_rfl) (by kernel_rfl) (by rfl) ?_ hS rfl ?_
        rotate_left
        · intro w' hw
          go_simp
          try with_reducible rfl
        simp only [Act.put, List.setIfInBounds_toArray, List.set_cons_zero, List.set_cons_succ]
        refine hs_take (i := 13) (d := some 29) (v := ?_) rfl (by kernel_rfl) (by kernel_rfl) (by kernel_rfl) (by rfl) ?_ hS rfl ?_
        rotate_left
        · intro w' hw
          go_simp
          try with_reducible rfl
        simp only [Act.put, List.setIfInBounds_toArray, List.set_cons_zero, List.set_cons_succ]
        refine hs_take (i := 14) (d := some 30) (v := ?_) rfl (by kernel_rfl) (by kernel_rfl) (by kernel_rfl) (by rfl) ?_ hS rfl ?_
        rotate_left
        · intro w' hw
          go_simp
          try with_reducible rfl
        simp only [Act.put, List.setIfInBounds_toArray, List.set_cons_zero, List.set_cons_succ]
        refine hs_take (i := 15) (d := some 31) (v := ?_) rfl (by kernel_rfl) (by kernel_rfl) (by kernel_rfl) (by rfl) ?_ hS rfl ?_
        rotate_left
        · intro w' hw
          have hc := e1 w' hw
          go_simp
          try with_reducible rfl
        simp only [Act.put, List.setIfInBounds_toArray, List.set_cons_zero, List.set_cons_succ]
        refine hs_take (i := 16) (d := some 32) (v := ?_) rfl (by kernel_rfl) (by kernel_rfl) (by kernel_rfl) (by rfl) ?_ hS rfl ?_
        rotate_left
        · intro w' hw
          go_simp
          try with_reducible rfl
        simp only [Act.put, List.setIfInBounds_toArray, List.set_cons_zero, List.set_cons_succ]
        refine hs_take (i := 17) (d := some 33) (v := ?_) rfl (by kernel_rfl) (by kernel_rfl) (by kernel_rfl) (by rfl) ?_ hS rfl ?_
        rotate_left
        · intro w' hw
          go_simp
          try with_reducible rfl
        simp only [Act.put, List.setIfInBounds_toArray, List.set_cons_zero, List.set_cons_succ]
        refine hs_take (i := 18) (d := some 34) (v := ?_) rfl (by kernel_rfl) (by kernel_rfl) (by kernel_rfl) (by rfl) ?_ hS rfl ?_
        rotate_left
        · intro w' hw
          go_simp
          try with_reducible rfl
        simp only [Act.put, List.setIfInBounds_toArray, List.set_cons_zero, List.set_cons_succ]
        refine hs_take (i := 19) (d := some 35) (v := ?_) rfl (by kernel_rfl) (by kernel_rfl) (by kernel_rfl) (by rfl) ?_ hS rfl ?_
        rotate_left
        · intro w' hw
          have hc := k0 w' hw
          go_simp
          try with_reducible rfl
        simp only [Act.put, List.setIfInBounds_toArray, List.set_cons_zero, List.set_cons_succ]
        refine hs_take (i := 21) (d := some 37) (v := ?_) rfl (by kernel_rfl) (by kernel_rfl) (by kernel_rfl) (by rfl) ?_ hS rfl ?_
        rotate_left
        · intro w' hw
          go_simp
          try with_reducible rfl
        simp only [Act.put, List.setIfInBounds_toArray, List.set_cons_zero, List.set_cons_succ]
        refine hs_call (i := 20) (d := some 36) rfl (by kernel_rfl) (by rfl) (by go_simp; first | done | exact ⟨rfl, rfl⟩ | with_reducible rfl) rfl ?_
        refine (cb w8).mono ?_
        rintro e' wA ⟨rfl, hbA⟩
        have hS : (Below w8.heap.size w8) wA := hbA
        refine ⟨_, rfl, hS, ?_⟩
        simp only [Act.put, List.setIfInBounds_toArray, List.set_cons_zero, List.set_cons_succ]
        refine hs_take (i := 22) (d := some 38) (v := .bool false) rfl (by kernel_rfl) (by kernel_rfl) (by kernel_rfl) (by rfl) (fun w' hw => by go_simp) hS rfl ?_
        simp only [Act.put, List.setIfInBounds_toArray, List.set_cons_zero, List.set_cons_succ]
        refine hs_done (by kernel_rfl) ?_
        have hwA : Below wr.heap.size wr wA := hB8.trans (hS.mono hB8.size)
        have hoA := ownsB ho hwA
        go_wp2_with fail
        go_roundw
        case rel => exact ⟨i + 1, out, by omega, by go_num, HO2, by omega, hoA, hB.trans (hwA.mono hB.size)⟩
        case measure => simp [intOf]; omega
    · have i1 : ¬ (i : Int) < (L.length : Int) := by omega
      have HF : Hid (out = L.filter (inB k z)) := hide (by rw [HO.out, List.take_of_length_le (by omega)])
      obtain ⟨va, vcap, rfl⟩ := owns_slice ho
      clear HO hr
      go_wp2_with fail
      go_ret
      exact ⟨_, rfl, by rw [← HF.out]; exact ho, hB⟩
end Go.Proofs.YtbfcbjjhdadicaaDoor
namespace Go.Proofs.YtbfcbjjhdadicaaDoor
open Go.RowKit
open Sha Tal
set_option maxRecDepth 100000 in
set_option maxHeartbeats 2000000 in
theorem ahead_any (a : Option Addr) (cap : Nat) (zs : List Int) (i : Nat) (hi : i < zs.length) (hzl : zs.length ≤ 100000) (w : World) (h : IntsAt w a zs) :
    Calls Tryd.prog 46 #[.slice a zs.length cap, .int .i64 (i : Int)] w fun e w' => e = .returned (.bool (decide (zs[i] ∈ zs.take i))) ∧ Below w.heap.size w w' := by
  obtain ⟨b, off, rfl, hbl, hr⟩ : ∃ b off, a = some ⟨b, off, none⟩ ∧ b < w.heap.size ∧ w.rangeAt b off (intsV zs) := by
    rcases h with q | q
    · subst q; simp at hi
    · exact q
  obtain ⟨D, hD⟩ : ∃ D, Hid (decide (zs[i] ∈ zs.take i) = D) := ⟨_, hide rfl⟩
  rw [hD.out]
  have cell : ∀ (j : Nat) (hj : j < zs.length) (W : World), Below w.heap.size w W → W.cell? ⟨b, off + j, none⟩ = some (.int .i64 zs[j]) := fun j hj W hW => (range_below hr hW hbl) j _ (by simp [intsV, List.getElem?_eq_getElem hj])
  have hiI : (i : Int) < (zs.length : Int) := by omega
  go_enter Tryd.func46, Tryd.ntmps46
  go_wp2_with fail
  go_loopw [5] (fun iv wr => ∃ k : Nat, k ≤ i ∧ iv = .int .i64 (k : Int) ∧ Hid (∀ z ∈ zs.take k, z ≠ zs[i]) ∧ Below w.heap.size w wr) (fun iv _ => i - (intOf iv).toNat)
  case atStart => exact ⟨0, by omega, rfl, hide (fun z hz => by simp at hz), Below.refl _ _⟩
  case round =>
    obtain ⟨k, hk, rfl, HN, hB⟩ := hrel
    by_cases hlt : k < i
    · have k1 : (k : Int) < (i : Int) := by omega
      have k2 : (k : Int) < (zs.length : Int) := by omega
      have hkl : k < zs.length := by omega
      have HT := hide (List.take_succ_eq_append_getElem hkl)
      have hmem : zs[k] ∈ zs.take i := by
        rw [List.mem_iff_getElem]
        exact ⟨k, by simp; omega, by simp⟩
      go_upto_region 4 with fail
      obtain ⟨w8, hw8⟩ : ∃ w8, wr.drew = w8 := ⟨_, rfl⟩
      have hB8 : Below w.heap.size w w8 := by rw [← hw8]; exact hB.drew
      have e0 : ∀ w', Below w8.heap.size w8 w' → w'.cell? ⟨b, off + k, none⟩ = some (.int .i64 zs[k]) := fun w' hw' => cell k hkl w' (hB8.trans (hw'.mono hB8.size))
      have e1 : ∀ w', Below w8.heap.size w8 w' → w'.cell? ⟨b, off + i, none⟩ = some (.int .i64 zs[i]) := fun w' hw' => cell i hi w' (hB8.trans (hw'.mono hB8.size))
      by_cases he : zs[k] = zs[i]
      · have HD : Hid (D = true) := hide (hD.out.symm.trans (decide_eq_true (by rw [← he]; exact hmem)))
        have hb1 : (zs[k] == zs[i]) = true := by simpa using he
        obtain ⟨p, hp⟩ : ∃ p, Hid (zs[k] = p) := ⟨_, hide rfl⟩
        obtain ⟨q, hq⟩ : ∃ q, Hid (zs[i] = q) := ⟨_, hide rfl⟩
        simp only [hp.out] at e0
        simp only [hq.out] at e1
        rw [hp.out, hq.out] at hb1
        clear he hmem HN HT cell
        refine hs_begin (S := (Below w8.heap.size w8)) 9 rfl (by kernel_rfl) ?_
        rw [hw8]
        clear hw8
        have hS : (Below w8.heap.size w8) w8 := Below.refl _ _
        refine hs_take (i := 0) (d := some 11) (v := ?_) rfl (by kernel_rfl) (by kernel_rfl) (by kernel_rfl) (by rfl) ?_ hS rfl ?_
        rotate_left
        · intro w' hw
          go_simp
          try with_reducible rfl
        simp only [Act.put, List.setIfInBounds_toArray, List.set_cons_zero, List.set_cons_succ]
        refine hs_take (i := 1) (d := some 12) (v := ?_) rfl (by kernel_rfl) (by kernel_rfl) (by kernel_rfl) (by rfl) ?_ hS rfl ?_
        rotate_left
        · intro w' hw
          go_simp
          try with_reducible rfl
        simp only [Act.put, List.setIfInBounds_toArray, List.set_cons_zero, List.set_cons_succ]
        refine hs_take (i := 2) (d := some 13) (v := ?_) rfl (by kernel_rfl) (by kernel_rfl) (by kernel_rfl) (by rfl) ?_ hS rfl ?_
        rotate_left
        · intro w' hw
          go_simp
          try with_reducible rfl
        simp only [Act.put, List.setIfInBounds_toArray, List.set_cons_zero, List.set_cons_succ]
        refine hs_take (i := 3) (d := some 14) (v := ?_) rfl (by kernel_rfl) (by kernel_rfl) (by kernel_rfl) (by rfl) ?_ hS rfl ?_
        rotate_left
        · intro w' hw
          have hc := e0 w' hw
          go_simp
          try with_reducible rfl
        simp only [Act.put, List.setIfInBounds_toArray, List.set_cons_zero, List.set_cons_succ]
        refine hs_take (i := 4) (d := some 15) (v := ?_) rfl (by kernel_rfl) (by kernel_rfl) (by kernel_rfl) (by rfl) ?_ hS rfl ?_
        rotate_left
        · intro w' hw
          go_simp
          try with_reducible rfl
        simp only [Act.put, List.setIfInBounds_toArray, List.set_cons_zero, List.set_cons_succ]
        refine hs_take (i := 5) (d := some 16) (v := ?_) rfl (by kernel_rfl) (by kernel_rfl) (by kernel_rfl) (by rfl) ?_ hS rfl ?_
        rotate_left
        · intro w' hw
          go_simp
          try with_reducible rfl
        simp only [Act.put, List.setIfInBounds_toArray, List.set_cons_zero, List.set_cons_succ]
        refine hs_take (i := 6) (d := some 17) (v := ?_) rfl (by kernel_rfl) (by kernel_rfl) (by kernel_rfl) (by rfl) ?_ hS rfl ?_
        rotate_left
        · intro w' hw
          go_simp
          try with_reducible rfl
        simp only [Act.put, List.setIfInBounds_toArray, List.set_cons_zero, List.set_cons_succ]
        refine hs_take (i := 7) (d := some 18) (v := ?_) rfl (by kernel_rfl) (by kernel_rfl) (by kernel_rfl) (by rfl) ?_ hS rfl ?_
        rotate_left
        · intro w' hw
          have hc := e1 w' hw
          go_simp
          try with_reducible rfl
        simp only [Act.put, List.setIfInBounds_toArray, List.set_cons_zero, List.set_cons_succ]
        refine hs_take (i := 8) (d := some 19) (v := .bool true) rfl (by kernel_rfl) (by kernel_rfl) (by kernel_rfl) (by rfl) (fun w' hw => by go_simp) hS rfl ?_
        simp only [Act.put, List.setIfInBounds_toArray, List.set_cons_zero, List.set_cons_succ]
        refine hs_done (by kernel_rfl) ?_
        go_wp2_with fail
        go_ret
        exact ⟨by rw [HD.out]; rfl, hB8⟩
      · have hb1 : (zs[k] == zs[i]) = false := by simpa using he
        have HN2 : Hid (∀ z ∈ zs.take (k + 1), z ≠ zs[i]) := hide (fun z hz => by
          rw [HT.out] at hz
          rcases List.mem_append.1 hz with q | q
          · exact HN.out z q
          · rw [List.mem_singleton.1 q]; exact he)
        obtain ⟨p, hp⟩ : ∃ p, Hid (zs[k] = p) := ⟨_, hide rfl⟩
        obtain ⟨q, hq⟩ : ∃ q, Hid (zs[i] = q) := ⟨_, hide rfl⟩
        simp only [hp.out] at e0
        simp only [hq.out] at e1
        rw [hp.out, hq.out] at hb1
        clear he hmem HN HT
        refine hs_begin (S := (Below w8.heap.size w8)) 9 rfl (by kernel_rfl) ?_
        rw [hw8]
        clear hw8
        have hS : (Below w8.heap.size w8) w8 := Below.refl _ _
        refine hs_take (i := 0) (d := some 11) (v := ?_) rfl (by kernel_rfl) (by kernel_rfl) (by kernel_rfl) (by rfl) ?_ hS rfl ?_
        rotate_left
        · intro w' hw
          go_simp
          try with_reducible rfl
        simp only [Act.put, List.setIfInBounds_toArray, List.set_cons_zero, List.set_cons_succ]
        refine hs_take (i := 1) (d := some 12) (v := ?_) rfl (by kernel_rfl) (by kernel_rfl) (by kernel_rfl) (by rfl) ?_ hS rfl ?_
        rotate_left
        · intro w' hw
          go_simp
          try with_reducible rfl
        simp only [Act.put, List.setIfInBounds_toArray, List.set_cons_zero, List.set_cons_succ]
        refine hs_take (i := 2) (d := some 13) (v := ?_) rfl (by kernel_rfl) (by kernel_rfl) (by kernel_rfl) (by rfl) ?_ hS rfl ?_
        rotate_left
        · intro w' hw
          go_simp
          try with_reducible rfl
        simp only [Act.put, List.setIfInBounds_toArray, List.set_cons_zero, List.set_cons_succ]
        refine hs_take (i := 3) (d := some 14) (v := ?_) rfl (by kernel_rfl) (by kernel_rfl) (by kernel_rfl) (by rfl) ?_ hS rfl ?_
        rotate_left
        · intro w' hw
          have hc := e0 w' hw
          go_simp
          try with_reducible rfl
        simp only [Act.put, List.setIfInBounds_toArray, List.set_cons_zero, List.set_cons_succ]
        refine hs_take (i := 4) (d := some 15) (v := ?_) rfl (by kernel_rfl) (by kernel_rfl) (by kernel_rfl) (by rfl) ?_ hS rfl ?_
        rotate_left
        · intro w' hw
          go_simp
          try with_reducible rfl
        simp only [Act.put, List.setIfInBounds_toArray, List.set_cons_zero, List.set_cons_succ]
        refine hs_take (i := 5) (d := some 16) (v := ?_) rfl (by kernel_rfl) (by kernel_rfl) (by kernel_rfl) (by rfl) ?_ hS rfl ?_
        rotate_left
        · intro w' hw
          go_simp
          try with_reducible rfl
        simp only [Act.put, List.setIfInBounds_toArray, List.set_cons_zero, List.set_cons_succ]
        refine hs_take (i := 6) (d := some 17) (v := ?_) rfl (by kernel_rfl) (by kernel_rfl) (by kernel_rfl) (by rfl) ?_ hS rfl ?_
        rotate_left
        · intro w' hw
          go_simp
          try with_reducible rfl
        simp only [Act.put, List.setIfInBounds_toArray, List.set_cons_zero, List.set_cons_succ]
        refine hs_take (i := 7) (d := some 18) (v := ?_) rfl (by kernel_rfl) (by kernel_rfl) (by kernel_rfl) (by rfl) ?_ hS rfl ?_
        rotate_left
        · intro w' hw
          have hc := e1 w' hw
          go_simp
          try with_reducible rfl
        simp only [Act.put, List.setIfInBounds_toArray, List.set_cons_zero, List.set_cons_succ]
        refine hs_take (i := 8) (d := some 19) (v := .bool false) rfl (by kernel_rfl) (by kernel_rfl) (by kernel_rfl) (by rfl) (fun w' hw => by go_simp) hS rfl ?_
        simp only [Act.put, List.setIfInBounds_toArray, List.set_cons_zero, List.set_cons_succ]
        refine hs_done (by kernel_rfl) ?_
        go_wp2_with fail
        go_roundw
        case rel => exact ⟨k + 1, by omega, by go_num, HN2, hB8⟩
        case measure => simp [intOf]; omega
    · have k1 : ¬ (k : Int) < (i : Int) := by omega
      have HD : Hid (D = false) := hide (hD.out.symm.trans (decide_eq_false (fun q => by
        have hki : k = i := by omega
        have := HN.out _ (by rw [hki]; exact q)
        exact this rfl)))
      clear HN cell
      go_wp2_with fail
      go_ret
      exact ⟨by rw [HD.out]; rfl, hB⟩
/-- do two lists have a pair in common? -/
def meetB (rs : List Rq) (r : Rq) : Bool := decide (pk r ∈ rs.map pk)
set_option maxRecDepth 100000 in
set_option maxHeartbeats 4000000 in
theorem meet_any (q : Bool) (a a' : Option Addr) (cap cap' : Nat) (rs : List Rq) (r : Rq) (w : World) (h : ReqsAt w a rs) (h' : ReqsAt w a' [r]) :
    Calls Tryd.prog 58 #[.agg #[.bool q, .slice a rs.length cap], .agg #[.bool false, .slice a' 1 cap']] w fun e w' => e = .returned (.bool (meetB rs r)) ∧ Below w.heap.size w w' := by
  obtain ⟨W1, hW1⟩ : ∃ W1, (w.alloc (.cells #[.bool q, .slice a rs.length cap] 54)).alloc (.cells #[.bool false, .slice a' 1 cap'] 54) = W1 := ⟨_, rfl⟩
  have hB1 : Below w.heap.size w W1 := by rw [← hW1]; exact ((Below.refl _ _).alloc (Nat.le_refl _) _).alloc (by simp) _
  have ra := range_new w #[.bool q, .slice a rs.length cap] 54
  have rb : W1.rangeAt (w.heap.size + 1) 0 [.bool false, .slice a' 1 cap'] := by
    rw [← hW1]
    have := range_new (w.alloc (.cells #[.bool q, .slice a rs.length cap] 54)) #[.bool false, .slice a' 1 cap'] 54
    simpa using this
  have ra2 : W1.rangeAt w.heap.size 0 [.bool q, .slice a rs.length cap] := by
    rw [← hW1]
    exact range_at ra (Below.heap_alloc _ _ _ (by simp))
  have g1 := ra2 1 _ rfl
  have f1 := rb 1 _ rfl
  have hs1 : w.heap.size + 1 < W1.heap.size := cell_lt f1
  rw [Nat.zero_add] at g1 f1
  have hrl := h.1
  unfold maxLen at hrl
  obtain ⟨b2, o2, rfl, hb2, hre2⟩ := h'.elem 0 (by simp)
  have hre2 : w.rangeAt b2 o2 r.cells := by simpa using hre2
  obtain ⟨D, hD⟩ : ∃ D, Hid (meetB rs r = D) := ⟨_, hide rfl⟩
  rw [hD.out]
  clear ra ra2 rb
  go_enter Tryd.func58, Tryd.ntmps58
  go_wp2_with fail
  go_loopw [5] (fun iv wr => ∃ k : Nat, k ≤ rs.length ∧ iv = .int .i64 (k : Int) ∧ Hid (∀ x ∈ rs.take k, pk x ≠ pk r) ∧ Below W1.heap.size W1 wr) (fun iv _ => rs.length - (intOf iv).toNat)
  case atStart => exact ⟨0, by omega, rfl, hide (fun z hz => by simp at hz), Below.refl _ _⟩
  case round =>
    clear hW1
    obtain ⟨k, hk, rfl, HN, hB⟩ := hrel
    have hx0 : w.heap.size < W1.heap.size := by omega
    have g1' := cell_at g1 (hB.block _ hx0)
    by_cases hlt : k < rs.length
    · have k0 : (k : Int) < (rs.length : Int) := by omega
      obtain ⟨w3, hw3⟩ : ∃ w3, w3 = wr := ⟨_, rfl⟩
      subst hw3
      go_wp2_with fail
      go_loopw [6] (fun iv wr => ((iv = .int .i64 0) ∨ (iv = .int .i64 1 ∧ Hid (∀ x ∈ rs.take (k + 1), pk x ≠ pk r))) ∧ Below w3.heap.size w3 wr) (fun iv _ => 1 - (intOf iv).toNat)
      case atStart => exact ⟨.inl rfl, Below.refl _ _⟩
      case round =>
        obtain ⟨hcase, hB3⟩ := hrel
        have hBr : Below W1.heap.size W1 wr := hB.trans (hB3.mono hB.size)
        have f1' := cell_at f1 (hBr.block _ hs1)
        rcases hcase with rfl | ⟨rfl, HN1⟩
        · have hBw : Below w.heap.size w wr := hB1.trans (hBr.mono hB1.size)
          obtain ⟨b1, o1, rfl, hb1, hre1⟩ := (h.below hBw).elem k hlt
          have HT := hide (List.take_succ_eq_append_getElem hlt)
          have hmem : rs[k] ∈ rs := List.getElem_mem hlt
          generalize rs[k] = x at *
          have hre2r := range_below hre2 hBw hb2
          go_upto_region 7 with fail
          obtain ⟨w8, hw8⟩ : ∃ w8, wr.drew = w8 := ⟨_, rfl⟩
          have hB8 : Below wr.heap.size wr w8 := by rw [← hw8]; exact (Below.refl _ _).drew
          have hB38 : Below w3.heap.size w3 w8 := hB3.trans (hB8.mono hB3.size)
          have hB18 : Below W1.heap.size W1 w8 := hBr.trans (hB8.mono hBr.size)
          have hbr2 : b2 < wr.heap.size := Nat.lt_of_lt_of_le hb2 hBw.size
          have q1 := range_below hre1 hB8 hb1
          have q2 := range_below hre2r hB8 hbr2
          have l1 : b1 < w8.heap.size := Nat.lt_of_lt_of_le hb1 hB8.size
          have l2 : b2 < w8.heap.size := Nat.lt_of_lt_of_le hbr2 hB8.size
          have c0 : ∀ w', Below w8.heap.size w8 w' → w'.cell? ⟨b1, o1 + k * 19, none⟩ = some (.int .i64 x.c) := fun w' hw' => (range_below q1 hw' l1) 0 _ rfl
          have c1 : ∀ w', Below w8.heap.size w8 w' → w'.cell? ⟨b1, o1 + k * 19 + 1, none⟩ = some (.int .i64 x.n) := fun w' hw' => (range_below q1 hw' l1) 1 _ rfl
          have d0 : ∀ w', Below w8.heap.size w8 w' → w'.cell? ⟨b2, o2, none⟩ = some (.int .i64 r.c) := fun w' hw' => (range_below q2 hw' l2) 0 _ rfl
          have d1 : ∀ w', Below w8.heap.size w8 w' → w'.cell? ⟨b2, o2 + 1, none⟩ = some (.int .i64 r.n) := fun w' hw' => (range_below q2 hw' l2) 1 _ rfl
          have x1 : ∀ w', Below w8.heap.size w8 w' → w'.cell? ⟨w.heap.size, 1, none⟩ = some (.slice (some ⟨b1, o1, none⟩) rs.length cap) := fun w' hw' => cell_at g1 ((hB18.trans (hw'.mono hB18.size)).block _ hx0)
          have y1 : ∀ w', Below w8.heap.size w8 w' → w'.cell? ⟨w.heap.size + 1, 1, none⟩ = some (.slice (some ⟨b2, o2, none⟩) 1 cap') := fun w' hw' => cell_at f1 ((hB18.trans (hw'.mono hB18.size)).block _ hs1)
          by_cases hcc : x.c = r.c
          · have hb1 : (x.c == r.c) = true := by simpa using hcc
            by_cases hnn : x.n = r.n
            · have hb2' : (x.n == r.n) = true := by simpa using hnn
              have HD : Hid (D = true) := hide (hD.out.symm.trans (decide_eq_true (List.mem_map.2 ⟨x, hmem, by unfold pk; rw [hcc, hnn]⟩)))
              clear hcc hnn HN HT hmem
              refine hs_begin (S := (Below w8.heap.size w8)) 28 rfl (by kernel_rfl) ?_
              rw [hw8]
              clear hw8
              have hS : (Below w8.heap.size w8) w8 := Below.refl _ _
              refine hs_take (i := 0) (d := some 21) (v := ?_) rfl (by kernel_rfl) (by kernel_rfl) (by kernel_rfl) (by rfl) ?_ hS rfl ?_
              rotate_left
              · intro w' hw
                go_simp
                try with_reducible rfl
              simp only [Act.put, List.setIfInBounds_toArray, List.set_cons_zero, List.set_cons_succ]
              refine hs_take (i := 1) (d := some 22) (v := ?_) rfl (by kernel_rfl) (by kernel_rfl) (by kernel_rfl) (by rfl) ?_ hS rfl ?_
              rotate_left
              · intro w' hw
                have hc := x1 w' hw
                go_simp
                try with_reducible rfl
              simp only [Act.put, List.setIfInBounds_toArray, List.set_cons_zero, List.set_cons_succ]
              refine hs_take (i := 2) (d := some 23) (v := ?_) rfl (by kernel_rfl) (by kernel_rfl) (by kernel_rfl) (by rfl) ?_ hS rfl ?_
              rotate_left
              · intro w' hw
                go_simp
                try with_reducible rfl
              simp only [Act.put, List.setIfInBounds_toArray, List.set_cons_zero, List.set_cons_succ]
              refine hs_take (i := 3) (d := some 24) (v := ?_) rfl (by kernel_rfl) (by kernel_rfl) (by kernel_rfl) (by rfl) ?_ hS rfl ?_
              rotate_left
              · intro w' hw
                go_simp
                try with_reducible rfl
              simp only [Act.put, List.setIfInBounds_toArray, List.set_cons_zero, List.set_cons_succ]
              refine hs_take (i := 4) (d := some 25) (v := ?_) rfl (by kernel_rfl) (by kernel_rfl) (by kernel_rfl) (by rfl) ?_ hS rfl ?_
              rotate_left
              · intro w' hw
                go_simp
                try with_reducible rfl
              simp only [Act.put, List.setIfInBounds_toArray, List.set_cons_zero, List.set_cons_succ]
              refine hs_take (i := 5) (d := some 26) (v := ?_) rfl (by kernel_rfl) (by kernel_rfl) (by kernel_rfl) (by rfl) ?_ hS rfl ?_
              rotate_left
              · intro w' hw
                have hc := c0 w' hw
                go_simp
                try with_reducible rfl
              simp only [Act.put, List.setIfInBounds_toArray, List.set_cons_zero, List.set_cons_succ]
              refine hs_take (i := 6) (d := some 27) (v := ?_) rfl (by kernel_rfl) (by kernel_rfl) (by kernel_rfl) (by rfl) ?_ hS rfl ?_
              rotate_left
              · intro w' hw
                go_simp
                try with_reducible rfl
              simp only [Act.put, List.setIfInBounds_toArray, List.set_cons_zero, List.set_cons_succ]
              refine hs_take (i := 7) (d := some 28) (v := ?_) rfl (by kernel_rfl) (by kernel_rfl) (by kernel_rfl) (by rfl) ?_ hS rfl ?_
              rotate_left
              · intro w' hw
                have hc := y1 w' hw
                go_simp
                try with_reducible rfl
              simp only [Act.put, List.setIfInBounds_toArray, List.set_cons_zero, List.set_cons_succ]
              refine hs_take (i := 8) (d := some 29) (v := ?_) rfl (by kernel_rfl) (by kernel_rfl) (by kernel_rfl) (by rfl) ?_ hS rfl ?_
              rotate_left
              · intro w' hw
                go_simp
                try with_reducible rfl
              simp only [Act.put, List.setIfInBounds_toArray, List.set_cons_zero, List.set_cons_succ]
              refine hs_take (i := 9) (d := some 30) (v := ?_) rfl (by kernel_rfl) (by kernel_rfl) (by kernel_rfl) (by rfl) ?_ hS rfl ?_
              rotate_left
              · intro w' hw
                go_simp
                try with_reducible rfl
              simp only [Act.put, List.setIfInBounds_toArray, List.set_cons_zero, List.set_cons_succ]
              refine hs_take (i := 10) (d := some 31) (v := ?_) rfl (by kernel_rfl) (by kernel_rfl) (by kernel_rfl) (by rfl) ?_ hS rfl ?_
              rotate_left
              · intro w' hw
                go_simp
                try with_reducible rfl
              simp only [Act.put, List.setIfInBounds_toArray, List.set_cons_zero, List.set_cons_succ]
              refine hs_take (i := 11) (d := some 32) (v := ?_) rfl (by kernel_rfl) (by kernel_rfl) (by kernel_rfl) (by rfl) ?_ hS rfl ?_
              rotate_left
              · intro w' hw
                have hc := d0 w' hw
                go_simp
                try with_reducible rfl
              simp only [Act.put, List.setIfInBounds_toArray, List.set_cons_zero, List.set_cons_succ]
              refine hs_take (i := 12) (d := some 33) (v := .bool true) rfl (by kernel_rfl) (by kernel_rfl) (by kernel_rfl) (by rfl) (fun w' hw => by go_simp) hS rfl ?_
              simp only [Act.put, List.setIfInBounds_toArray, List.set_cons_zero, List.set_cons_succ]
              refine hs_take (i := 13) (d := some 34) (v := ?_) rfl (by kernel_rfl) (by kernel_rfl) (by kernel_rfl) (by rfl) ?_ hS rfl ?_
              rotate_left
              · intro w' hw
                go_simp
                try with_reducible rfl
              simp only [Act.put, List.setIfInBounds_toArray, List.set_cons_zero, List.set_cons_succ]
              refine hs_take (i := 14) (d := some 35) (v := ?_) rfl (by kernel_rfl) (by kernel_rfl) (by kernel_rfl) (by rfl) ?_ hS rfl ?_
              rotate_left
              · intro w' hw
                go_simp
                try with_reducible rfl
              simp only [Act.put, List.setIfInBounds_toArray, List.set_cons_zero, List.set_cons_succ]
              refine hs_take (i := 15) (d := some 36) (v := ?_) rfl (by kernel_rfl) (by kernel_rfl) (by kernel_rfl) (by rfl) ?_ hS rfl ?_
              rotate_left
              · intro w' hw
                have hc := x1 w' hw
                go_simp
                try with_reducible rfl
              simp only [Act.put, List.setIfInBounds_toArray, List.set_cons_zero, List.set_cons_succ]
              refine hs_take (i := 16) (d := some 37) (v := ?_) rfl (by kernel_rfl) (by kernel_rfl) (by kernel_rfl) (by rfl) ?_ hS rfl ?_
              rotate_left
              · intro w' hw
                go_simp
                try with_reducible rfl
              simp only [Act.put, List.setIfInBounds_toArray, List.set_cons_zero, List.set_cons_succ]
              refine hs_take (i := 17) (d := some 38) (v := ?_) rfl (by kernel_rfl) (by kernel_rfl) (by kernel_rfl) (by rfl) ?_ hS rfl ?_
              rotate_left
              · intro w' hw
                go_simp
                try with_reducible rfl
              simp only [Act.put, List.setIfInBounds_toArray, List.set_cons_zero, List.set_cons_succ]
              refine hs_take (i := 18) (d := some 39) (v := ?_) rfl (by kernel_rfl) (by kernel_rfl) (by kernel_rfl) (by rfl) ?_ hS rfl ?_
              rotate_left
              · intro w' hw
                go_simp
                try with_reducible rfl
              simp only [Act.put, List.setIfInBounds_toArray, List.set_cons_zero, List.set_cons_succ]
              refine hs_take (i := 19) (d := some 40) (v := ?_) rfl (by kernel_rfl) (by kernel_rfl) (by kernel_rfl) (by rfl) ?_ hS rfl ?_
              rotate_left
              · intro w' hw
                have hc := c1 w' hw
                go_simp
                try with_reducible rfl
              simp only [Act.put, List.setIfInBounds_toArray, List.set_cons_zero, List.set_cons_succ]
              refine hs_take (i := 20) (d := some 41) (v := ?_) rfl (by kernel_rfl) (by kernel_rfl) (by kernel_rfl) (by rfl) ?_ hS rfl ?_
              rotate_left
              · intro w' hw
                go_simp
                try with_reducible rfl
              simp only [Act.put, List.setIfInBounds_toArray, List.set_cons_zero, List.set_cons_succ]
              refine hs_take (i := 21) (d := some 42) (v := ?_) rfl (by kernel_rfl) (by kernel_rfl) (by kernel_rfl) (by rfl) ?_ hS rfl ?_
              rotate_left
              · intro w' hw
                have hc := y1 w' hw
                go_simp
                try with_reducible rfl
              simp only [Act.put, List.setIfInBounds_toArray, List.set_cons_zero, List.set_cons_succ]
              refine hs_take (i := 22) (d := some 43) (v := ?_) rfl (by kernel_rfl) (by kernel_rfl) (by kernel_rfl) (by rfl) ?_ hS rfl ?_
              rotate_left
              · intro w' hw
                go_simp
                try with_reducible rfl
              simp only [Act.put, List.setIfInBounds_toArray, List.set_cons_zero, List.set_cons_succ]
              refine hs_take (i := 23) (d := some 44) (v := ?_) rfl (by kernel_rfl) (by kernel_rfl) (by kernel_rfl) (by rfl) ?_ hS rfl ?_
              rotate_left
              · intro w' hw
                go_simp
                try with_reducible rfl
              simp only [Act.put, List.setIfInBounds_toArray, List.set_cons_zero, List.set_cons_succ]
              refine hs_take (i := 24) (d := some 45) (v := ?_) rfl (by kernel_rfl) (by kernel_rfl) (by kernel_rfl) (by rfl) ?_ hS rfl ?_
              rotate_left
              · intro w' hw
                go_simp
                try with_reducible rfl
              simp only [Act.put, List.setIfInBounds_toArray, List.set_cons_zero, List.set_cons_succ]
              refine hs_take (i := 25) (d := some 46) (v := ?_) rfl (by kernel_rfl) (by kernel_rfl) (by kernel_rfl) (by rfl) ?_ hS rfl ?_
              rotate_left
              · intro w' hw
                have hc := d1 w' hw
                go_simp
                try with_reducible rfl
              simp only [Act.put, List.setIfInBounds_toArray, List.set_cons_zero, List.set_cons_succ]
              refine hs_take (i := 26) (d := some 47) (v := .bool true) rfl (by kernel_rfl) (by kernel_rfl) (by kernel_rfl) (by rfl) (fun w' hw => by go_simp) hS rfl ?_
              simp only [Act.put, List.setIfInBounds_toArray, List.set_cons_zero, List.set_cons_succ]
              refine hs_take (i := 27) (d := some 48) (v := .bool true) rfl (by kernel_rfl) (by kernel_rfl) (by kernel_rfl) (by rfl) (fun w' hw => by go_simp) hS rfl ?_
              simp only [Act.put, List.setIfInBounds_toArray, List.set_cons_zero, List.set_cons_succ]
              refine hs_done (by kernel_rfl) ?_
              go_wp2_with fail
              go_ret
              exact ⟨by rw [HD.out]; rfl, hB1.trans (hB18.mono hB1.size)⟩
            · have hb2' : (x.n == r.n) = false := by simpa using hnn
              have HN2 : Hid (∀ y ∈ rs.take (k + 1), pk y ≠ pk r) := hide (fun y hy => by
                rw [HT.out] at hy
                rcases List.mem_append.1 hy with q | q
                · exact HN.out y q
                · rw [List.mem_singleton.1 q]; intro e; unfold pk at e; injection e with e1 e2; exact hnn e2)
              clear hcc hnn HN HT hmem
              refine hs_begin (S := (Below w8.heap.size w8)) 28 rfl (by kernel_rfl) ?_
              rw [hw8]
              clear hw8
              have hS : (Below w8.heap.size w8) w8 := Below.refl _ _
              refine hs_take (i := 0) (d := some 21) (v := ?_) rfl (by kernel_rfl) (by kernel_rfl) (by kernel_rfl) (by rfl) ?_ hS rfl ?_
              rotate_left
              · intro w' hw
                go_simp
                try with_reducible rfl
              simp only [Act.put, List.setIfInBounds_toArray, List.set_cons_zero, List.set_cons_succ]
              refine hs_take (i := 1) (d := some 22) (v := ?_) rfl (by kernel_rfl) (by kernel_rfl) (by kernel_rfl) (by rfl) ?_ hS rfl ?_
              rotate_left
              · intro w' hw
                have hc := x1 w' hw
                go_simp
                try with_reducible rfl
              simp only [Act.put, List.setIfInBounds_toArray, List.set_cons_zero, List.set_cons_succ]
              refine hs_take (i := 2) (d := some 23) (v := ?_) rfl (by kernel_rfl) (by kernel_rfl) (by kernel_rfl) (by rfl) ?_ hS rfl ?_
              rotate_left
              · intro w' hw
                go_simp
                try with_reducible rfl
              simp only [Act.put, List.setIfInBounds_toArray, List.set_cons_zero, List.set_cons_succ]
              refine hs_take (i := 3) (d := some 24) (v := ?_) rfl (by kernel_rfl) (by kernel_rfl) (by kernel_rfl) (by rfl) ?_ hS rfl ?_
              rotate_left
              · intro w' hw
                go_simp
                try with_reducible rfl
              simp only [Act.put, List.setIfInBounds_toArray, List.set_cons_zero, List.set_cons_succ]
              refine hs_take (i := 4) (d := some 25) (v := ?_) rfl (by kernel_rfl) (by kernel_rfl) (by kernel_rfl) (by rfl) ?_ hS rfl ?_
              rotate_left
              · intro w' hw
                go_simp
                try with_reducible rfl
              simp only [Act.put, List.setIfInBounds_toArray, List.set_cons_zero, List.set_cons_succ]
              refine hs_take (i := 5) (d := some 26) (v := ?_) rfl (by kernel_rfl) (by kernel_rfl) (by kernel_rfl) (by rfl) ?_ hS rfl ?_
              rotate_left
              · intro w' hw
                have hc := c0 w' hw
                go_simp
                try with_reducible rfl
              simp only [Act.put, List.setIfInBounds_toArray, List.set_cons_zero, List.set_cons_succ]
              refine hs_take (i := 6) (d := some 27) (v := ?_) rfl (by kernel_rfl) (by kernel_rfl) (by kernel_rfl) (by rfl) ?_ hS rfl ?_
              rotate_left
              · intro w' hw
                go_simp
                try with_reducible rfl
              simp only [Act.put, List.setIfInBounds_toArray, List.set_cons_zero, List.set_cons_succ]
              refine hs_take (i := 7) (d := some 28) (v := ?_) rfl (by kernel_rfl) (by kernel_rfl) (by kernel_rfl) (by rfl) ?_ hS rfl ?_
              rotate_left
              · intro w' hw
                have hc := y1 w' hw
                go_simp
                try with_reducible rfl
              simp only [Act.put, List.setIfInBounds_toArray, List.set_cons_zero, List.set_cons_succ]
              refine hs_take (i := 8) (d := some 29) (v := ?_) rfl (by kernel_rfl) (by kernel_rfl) (by kernel_rfl) (by rfl) ?_ hS rfl ?_
              rotate_left
              · intro w' hw
                go_simp
                try with_reducible rfl
              simp only [Act.put, List.setIfInBounds_toArray, List.set_cons_zero, List.set_cons_succ]
              refine hs_take (i := 9) (d := some 30) (v := ?_) rfl (by kernel_rfl) (by kernel_rfl) (by kernel_rfl) (by rfl) ?_ hS rfl ?_
              rotate_left
              · intro w' hw
                go_simp
                try with_reducible rfl
              simp only [Act.put, List.setIfInBounds_toArray, List.set_cons_zero, List.set_cons_succ]
              refine hs_take (i := 10) (d := some 31) (v := ?_) rfl (by kernel_rfl) (by kernel_rfl) (by kernel_rfl) (by rfl) ?_ hS rfl ?_
              rotate_left
              · intro w' hw
                go_simp
                try with_reducible rfl
              simp only [Act.put, List.setIfInBounds_toArray, List.set_cons_zero, List.set_cons_succ]
              refine hs_take (i := 11) (d := some 32) (v := ?_) rfl (by kernel_rfl) (by kernel_rfl) (by kernel_rfl) (by rfl) ?_ hS rfl ?_
              rotate_left
              · intro w' hw
                have hc := d0 w' hw
                go_simp
                try with_reducible rfl
              simp only [Act.put, List.setIfInBounds_toArray, List.set_cons_zero, List.set_cons_succ]
              refine hs_take (i := 12) (d := some 33) (v := .bool true) rfl (by kernel_rfl) (by kernel_rfl) (by kernel_rfl) (by rfl) (fun w' hw => by go_simp) hS rfl ?_
              simp only [Act.put, List.setIfInBounds_toArray, List.set_cons_zero, List.set_cons_succ]
              refine hs_take (i := 13) (d := some 34) (v := ?_) rfl (by kernel_rfl) (by kernel_rfl) (by kernel_rfl) (by rfl) ?_ hS rfl ?_
              rotate_left
              · intro w' hw
                go_simp
                try with_reducible rfl
              simp only [Act.put, List.setIfInBounds_toArray, List.set_cons_zero, List.set_cons_succ]
              refine hs_take (i := 14) (d := some 35) (v := ?_) rfl (by kernel_rfl) (by kernel_rfl) (by kernel_rfl) (by rfl) ?_ hS rfl ?_
              rotate_left
              · intro w' hw
                go_simp
                try with_reducible rfl
              simp only [Act.put, List.setIfInBounds_toArray, List.set_cons_zero, List.set_cons_succ]
              refine hs_take (i := 15) (d := some 36) (v := ?_) rfl (by kernel_rfl) (by kernel_rfl) (by kernel_rfl) (by rfl) ?_ hS rfl ?_
              rotate_left
              · intro w' hw
                have hc := x1 w' hw
                go_simp
                try with_reducible rfl
              simp only [Act.put, List.setIfInBounds_toArray, List.set_cons_zero, List.set_cons_succ]
              refine hs_take (i := 16) (d := some 37) (v := ?_) rfl (by kernel_rfl) (by kernel_rfl) (by kernel_rfl) (by rfl) ?_ hS rfl ?_
              rotate_left
              · intro w' hw
                go_simp
                try with_reducible rfl
              simp only [Act.put, List.setIfInBounds_toArray, List.set_cons_zero, List.set_cons_succ]
              refine hs_take (i := 17) (d := some 38) (v := ?_) rfl (by kernel_rfl) (by kernel_rfl) (by kernel_rfl) (by rfl) ?_ hS rfl ?_
              rotate_left
              · intro w' hw
                go_simp
                try with_reducible rfl
              simp only [Act.put, List.setIfInBounds_toArray, List.set_cons_zero, List.set_cons_succ]
              refine hs_take (i := 18) (d := some 39) (v := ?_) rfl (by kernel_rfl) (by kernel_rfl) (by kernel_rfl) (by rfl) ?_ hS rfl ?_
              rotate_left
              · intro w' hw
                go_simp
                try with_reducible rfl
              simp only [Act.put, List.setIfInBounds_toArray, List.set_cons_zero, List.set_cons_succ]
              refine hs_take (i := 19) (d := some 40) (v := ?_) rfl (by kernel_rfl) (by kernel_rfl) (by kernel_rfl) (by rfl) ?_ hS rfl ?_
              rotate_left
              · intro w' hw
                have hc := c1 w' hw
                go_simp
                try with_reducible rfl
              simp only [Act.put, List.setIfInBounds_toArray, List.set_cons_zero, List.set_cons_succ]
              refine hs_take (i := 20) (d := some 41) (v := ?_) rfl (by kernel_rfl) (by kernel_rfl) (by kernel_rfl) (by rfl) ?_ hS rfl ?_
              rotate_left
              · intro w' hw
                go_simp
                try with_reducible rfl
              simp only [Act.put, List.setIfInBounds_toArray, List.set_cons_zero, List.set_cons_succ]
              refine hs_take (i := 21) (d := some 42) (v := ?_) rfl (by kernel_rfl) (by kernel_rfl) (by kernel_rfl) (by rfl) ?_ hS rfl ?_
              rotate_left
              · intro w' hw
                have hc := y1 w' hw
                go_simp
                try with_reducible rfl
              simp only [Act.put, List.setIfInBounds_toArray, List.set_cons_zero, List.set_cons_succ]
              refine hs_take (i := 22) (d := some 43) (v := ?_) rfl (by kernel_rfl) (by kernel_rfl) (by kernel_rfl) (by rfl) ?_ hS rfl ?_
              rotate_left
              · intro w' hw
                go_simp
                try with_reducible rfl
              simp only [Act.put, List.setIfInBounds_toArray, List.set_cons_zero, List.set_cons_succ]
              refine hs_take (i := 23) (d := some 44) (v := ?_) rfl (by kernel_rfl) (by kernel_rfl) (by kernel_rfl) (by rfl) ?_ hS rfl ?_
              rotate_left
              · intro w' hw
                go_simp
                try with_reducible rfl
              simp only [Act.put, List.setIfInBounds_toArray, List.set_cons_zero, List.set_cons_succ]
              refine hs_take (i := 24) (d := some 45) (v := ?_) rfl (by kernel_rfl) (by kernel_rfl) (by kernel_rfl) (by rfl) ?_ hS rfl ?_
              rotate_left
              · intro w' hw
                go_simp
                try with_reducible rfl
              simp only [Act.put, List.setIfInBounds_toArray, List.set_cons_zero, List.set_cons_succ]
              refine hs_take (i := 25) (d := some 46) (v := ?_) rfl (by kernel_rfl) (by kernel_rfl) (by kernel_rfl) (by rfl) ?_ hS rfl ?_
              rotate_left
              · intro w' hw
                have hc := d1 w' hw
                go_simp
                try with_reducible rfl
              simp only [Act.put, List.setIfInBounds_toArray, List.set_cons_zero, List.set_cons_succ]
              refine hs_take (i := 26) (d := some 47) (v := .bool false) rfl (by kernel_rfl) (by kernel_rfl) (by kernel_rfl) (by rfl) (fun w' hw => by go_simp) hS rfl ?_
              simp only [Act.put, List.setIfInBounds_toArray, List.set_cons_zero, List.set_cons_succ]
              refine hs_take (i := 27) (d := some 48) (v := .bool false) rfl (by kernel_rfl) (by kernel_rfl) (by kernel_rfl) (by rfl) (fun w' hw => by go_simp) hS rfl ?_
              simp only [Act.put, List.setIfInBounds_toArray, List.set_cons_zero, List.set_cons_succ]
              refine hs_done (by kernel_rfl) ?_
              go_wp2_with fail
              go_roundw
              case rel => exact ⟨.inr ⟨rfl, HN2⟩, hB38⟩
              case measure => simp [intOf]
          · have hb1 : (x.c == r.c) = false := by simpa using hcc
            have HN2 : Hid (∀ y ∈ rs.take (k + 1), pk y ≠ pk r) := hide (fun y hy => by
              rw [HT.out] at hy
              rcases List.mem_append.1 hy with q | q
              · exact HN.out y q
              · rw [List.mem_singleton.1 q]; intro e; unfold pk at e; injection e with e1 e2; exact hcc e1)
            clear hcc HN HT hmem
            refine hs_begin (S := (Below w8.heap.size w8)) 28 rfl (by kernel_rfl) ?_
            rw [hw8]
            clear hw8
            have hS : (Below w8.heap.size w8) w8 := Below.refl _ _
            refine hs_take (i := 0) (d := some 21) (v := ?_) rfl (by kernel_rfl) (by kernel_rfl) (by kernel_rfl) (by rfl) ?_ hS rfl ?_
            rotate_left
            · intro w' hw
              go_simp
              try with_reducible rfl
            simp only [Act.put, List.setIfInBounds_toArray, List.set_cons_zero, List.set_cons_succ]
            refine hs_take (i := 1) (d := some 22) (v := ?_) rfl (by kernel_rfl) (by kernel_rfl) (by kernel_rfl) (by rfl) ?_ hS rfl ?_
            rotate_left
            · intro w' hw
              have hc := x1 w' hw
              go_simp
              try with_reducible rfl
            simp only [Act.put, List.setIfInBounds_toArray, List.set_cons_zero, List.set_cons_succ]
            refine hs_take (i := 2) (d := some 23) (v := ?_) rfl (by kernel_rfl) (by kernel_rfl) (by kernel_rfl) (by rfl) ?_ hS rfl ?_
            rotate_left
            · intro w' hw
              go_simp
              try with_reducible rfl
            simp only [Act.put, List.setIfInBounds_toArray, List.set_cons_zero, List.set_cons_succ]
            refine hs_take (i := 3) (d := some 24) (v := ?_) rfl (by kernel_rfl) (by kernel_rfl) (by kernel_rfl) (by rfl) ?_ hS rfl ?_
            rotate_left
            · intro w' hw
              go_simp
              try with_reducible rfl
            simp only [Act.put, List.setIfInBounds_toArray, List.set_cons_zero, List.set_cons_succ]
            refine hs_take (i := 4) (d := some 25) (v := ?_) rfl (by kernel_rfl) (by kernel_rfl) (by kernel_rfl) (by rfl) ?_ hS rfl ?_
            rotate_left
            · intro w' hw
              go_simp
              try with_reducible rfl
            simp only [Act.put, List.setIfInBounds_toArray, List.set_cons_zero, List.set_cons_succ]
            refine hs_take (i := 5) (d := some 26) (v := ?_) rfl (by kernel_rfl) (by kernel_rfl) (by kernel_rfl) (by rfl) ?_ hS rfl ?_
            rotate_left
            · intro w' hw
              have hc := c0 w' hw
              go_simp
              try with_reducible rfl
            simp only [Act.put, List.setIfInBounds_toArray, List.set_cons_zero, List.set_cons_succ]
            refine hs_take (i := 6) (d := some 27) (v := ?_) rfl (by kernel_rfl) (by kernel_rfl) (by kernel_rfl) (by rfl) ?_ hS rfl ?_
            rotate_left
            · intro w' hw
              go_simp
              try with_reducible rfl
            simp only [Act.put, List.setIfInBounds_toArray, List.set_cons_zero, List.set_cons_succ]
            refine hs_take (i := 7) (d := some 28) (v := ?_) rfl (by kernel_rfl) (by kernel_rfl) (by kernel_rfl) (by rfl) ?_ hS rfl ?_
            rotate_left
            · intro w' hw
              have hc := y1 w' hw
              go_simp
              try with_reducible rfl
            simp only [Act.put, List.setIfInBounds_toArray, List.set_cons_zero, List.set_cons_succ]
            refine hs_take (i := 8) (d := some 29) (v := ?_) rfl (by kernel_rfl) (by kernel_rfl) (by kernel_rfl) (by rfl) ?_ hS rfl ?_
            rotate_left
            · intro w' hw
              go_simp
              try with_reducible rfl
            simp only [Act.put, List.setIfInBounds_toArray, List.set_cons_zero, List.set_cons_succ]
            refine hs_take (i := 9) (d := some 30) (v := ?_) rfl (by kernel_rfl) (by kernel_rfl) (by kernel_rfl) (by rfl) ?_ hS rfl ?_
            rotate_left
            · intro w' hw
              go_simp
              try with_reducible rfl
            simp only [Act.put, List.setIfInBounds_toArray, List.set_cons_zero, List.set_cons_succ]
            refine hs_take (i := 10) (d := some 31) (v := ?_) rfl (by kernel_rfl) (by kernel_rfl) (by kernel_rfl) (by rfl) ?_ hS rfl ?_
            rotate_left
            · intro w' hw
              go_simp
              try with_reducible rfl
            simp only [Act.put, List.setIfInBounds_toArray, List.set_cons_zero, List.set_cons_succ]
            refine hs_take (i := 11) (d := some 32) (v := ?_) rfl (by kernel_rfl) (by kernel_rfl) (by kernel_rfl) (by rfl) ?_ hS rfl ?_
            rotate_left
            · intro w' hw
              have hc := d0 w' hw
              go_simp
              try with_reducible rfl
            simp only [Act.put, List.setIfInBounds_toArray, List.set_cons_zero, List.set_cons_succ]
            refine hs_take (i := 12) (d := some 33) (v := .bool false) rfl (by kernel_rfl) (by kernel_rfl) (by kernel_rfl) (by rfl) (fun w' hw => by go_simp) hS rfl ?_
            simp only [Act.put, List.setIfInBounds_toArray, List.set_cons_zero, List.set_cons_succ]
            refine hs_take (i := 13) (d := some 34) (v := ?_) rfl (by kernel_rfl) (by kernel_rfl) (by kernel_rfl) (by rfl) ?_ hS rfl ?_
            rotate_left
            · intro w' hw
              go_simp
              try with_reducible rfl
            simp only [Act.put, List.setIfInBounds_toArray, List.set_cons_zero, List.set_cons_succ]
            refine hs_skip (i := 14) (d := some 35) rfl (by kernel_rfl) (by kernel_rfl) (by kernel_rfl) (by rfl) hS rfl ?_
            simp only [Act.put, List.setIfInBounds_toArray, List.set_cons_zero, List.set_cons_succ]
            refine hs_skip (i := 15) (d := some 36) rfl (by kernel_rfl) (by kernel_rfl) (by kernel_rfl) (by rfl) hS rfl ?_
            simp only [Act.put, List.setIfInBounds_toArray, List.set_cons_zero, List.set_cons_succ]
            refine hs_skip (i := 16) (d := some 37) rfl (by kernel_rfl) (by kernel_rfl) (by kernel_rfl) (by rfl) hS rfl ?_
            simp only [Act.put, List.setIfInBounds_toArray, List.set_cons_zero, List.set_cons_succ]
            refine hs_skip (i := 17) (d := some 38) rfl (by kernel_rfl) (by kernel_rfl) (by kernel_rfl) (by rfl) hS rfl ?_
            simp only [Act.put, List.setIfInBounds_toArray, List.set_cons_zero, List.set_cons_succ]
            refine hs_skip (i := 18) (d := some 39) rfl (by kernel_rfl) (by kernel_rfl) (by kernel_rfl) (by rfl) hS rfl ?_
            simp only [Act.put, List.setIfInBounds_toArray, List.set_cons_zero, List.set_cons_succ]
            refine hs_skip (i := 19) (d := some 40) rfl (by kernel_rfl) (by kernel_rfl) (by kernel_rfl) (by rfl) hS rfl ?_
            simp only [Act.put, List.setIfInBounds_toArray, List.set_cons_zero, List.set_cons_succ]
            refine hs_skip (i := 20) (d := some 41) rfl (by kernel_rfl) (by kernel_rfl) (by kernel_rfl) (by rfl) hS rfl ?_
            simp only [Act.put, List.setIfInBounds_toArray, List.set_cons_zero, List.set_cons_succ]
            refine hs_skip (i := 21) (d := some 42) rfl (by kernel_rfl) (by kernel_rfl) (by kernel_rfl) (by rfl) hS rfl ?_
            simp only [Act.put, List.setIfInBounds_toArray, List.set_cons_zero, List.set_cons_succ]
            refine hs_skip (i := 22) (d := some 43) rfl (by kernel_rfl) (by kernel_rfl) (by kernel_rfl) (by rfl) hS rfl ?_
            simp only [Act.put, List.setIfInBounds_toArray, List.set_cons_zero, List.set_cons_succ]
            refine hs_skip (i := 23) (d := some 44) rfl (by kernel_rfl) (by kernel_rfl) (by kernel_rfl) (by rfl) hS rfl ?_
            simp only [Act.put, List.setIfInBounds_toArray, List.set_cons_zero, List.set_cons_succ]
            refine hs_skip (i := 24) (d := some 45) rfl (by kernel_rfl) (by kernel_rfl) (by kernel_rfl) (by rfl) hS rfl ?_
            simp only [Act.put, List.setIfInBounds_toArray, List.set_cons_zero, List.set_cons_succ]
            refine hs_skip (i := 25) (d := some 46) rfl (by kernel_rfl) (by kernel_rfl) (by kernel_rfl) (by rfl) hS rfl ?_
            simp only [Act.put, List.setIfInBounds_toArray, List.set_cons_zero, List.set_cons_succ]
            refine hs_skip (i := 26) (d := some 47) rfl (by kernel_rfl) (by kernel_rfl) (by kernel_rfl) (by rfl) hS rfl ?_
            simp only [Act.put, List.setIfInBounds_toArray, List.set_cons_zero, List.set_cons_succ]
            refine hs_take (i := 27) (d := some 48) (v := .bool false) rfl (by kernel_rfl) (by kernel_rfl) (by kernel_rfl) (by rfl) (fun w' hw => by go_simp) hS rfl ?_
            simp only [Act.put, List.setIfInBounds_toArray, List.set_cons_zero, List.set_cons_succ]
            refine hs_done (by kernel_rfl) ?_
            go_wp2_with fail
            go_roundw
            case rel => exact ⟨.inr ⟨rfl, HN2⟩, hB38⟩
            case measure => simp [intOf]
        · go_wp2_with fail
          go_roundw
          case rel => exact ⟨k + 1, by omega, by go_num, HN1, hBr⟩
          case measure => simp [intOf]; omega
    · have k0 : ¬ (k : Int) < (rs.length : Int) := by omega
      have HD : Hid (D = false) := hide (hD.out.symm.trans (decide_eq_false (fun q => by
        obtain ⟨x, hx, he⟩ := List.mem_map.1 q
        exact HN.out x (by rw [List.take_of_length_le (by omega)]; exact hx) he)))
      clear HN
      go_wp2_with fail
      go_ret
      exact ⟨by rw [HD.out]; rfl, hB1.trans (hB.mono hB1.size)⟩
end Go.Proofs.YtbfcbjjhdadicaaDoor
namespace Go.Proofs.YtbfcbjjhdadicaaDoor
open Go.RowKit
open Sha Tal
def busyB (us : List Bx) (r : Rq) : Bool := us.any (fun x => meetB x.rs r)
set_option maxRecDepth 100000 in
set_option maxHeartbeats 4000000 in
theorem busy_any (a : Option Addr) (cap : Nat) (us : List Bx) (r : Rq) (w : World) (hr : r.ok) (h : RowOf Bx.cells w a us) (hok : ∀ x ∈ us, x.ok w) (hl : us.length ≤ 100000) :
    Calls Tryd.prog 47 #[.slice a us.length cap, .agg r.cells.toArray] w fun e w' => e = .returned (.bool (busyB us r)) ∧ Below w.heap.size w w' := by
  have hB1 : Below w.heap.size w (w.alloc (.cells r.cells.toArray 35)) := (Below.refl _ _).alloc (Nat.le_refl _) _
  have hR1 : (w.alloc (.cells r.cells.toArray 35)).rangeAt w.heap.size 0 r.cells := by simpa using range_new w r.cells.toArray 35
  obtain ⟨W1, hW1⟩ : ∃ W1, w.alloc (.cells r.cells.toArray 35) = W1 := ⟨_, rfl⟩
  rw [hW1] at hB1 hR1
  have hiu := hr.isz
  have hul := hr.length
  obtain ⟨W2, hW2⟩ : ∃ W2, W1.alloc (.cells r.cells.toArray 35) = W2 := ⟨_, rfl⟩
  have hB2 : Below W1.heap.size W1 W2 := by rw [← hW2]; exact (Below.refl _ _).alloc (Nat.le_refl _) _
  have hr2 : ReqsAt W2 (some ⟨W1.heap.size, 0, none⟩) [r] := ⟨by unfold maxLen; simp, fun x hx => by rw [List.mem_singleton.1 hx]; exact hr, .inr ⟨_, _, rfl, by rw [← hW2]; simp, by rw [← hW2]; simpa [flatR] using range_new W1 r.cells.toArray 35⟩⟩
  obtain ⟨cb, hcb⟩ : ∃ cb, Hid (W1.heap.size = cb) := ⟨_, hide rfl⟩
  rw [hcb.out] at hr2
  obtain ⟨W3, hW3⟩ : ∃ W3, W2.alloc (.cells #[.bool false, .slice (some ⟨cb, 0, none⟩) 1 1] 54) = W3 := ⟨_, rfl⟩
  have hF1 : W3.rangeAt W2.heap.size 0 [.bool false, .slice (some ⟨cb, 0, none⟩) 1 1] := by rw [← hW3]; simpa using range_new W2 #[.bool false, .slice (some ⟨cb, 0, none⟩) 1 1] 54
  have hF2 : Below W2.heap.size W2 W3 := by rw [← hW3]; exact (Below.refl _ _).alloc (Nat.le_refl _) _
  have hX5 : W2.heap.size < W3.heap.size := by rw [← hW3]; simp
  have hB3 : Below w.heap.size w W3 := hB1.trans ((hB2.trans (hF2.mono hB2.size)).mono hB1.size)
  have hr3 := hr2.below hF2
  obtain ⟨u, hu⟩ : ∃ u, Hid (r.cells = u) := ⟨_, hide rfl⟩
  rw [hu.out] at hR1 hiu hul hW1 hW2 ⊢
  have hib2 : (Tryd.prog.info? 54).map (·.size) = some [Value.bool false, Value.slice (some ⟨cb, 0, none⟩) 1 1].length := by kernel_rfl
  obtain ⟨D, hD⟩ : ∃ D, Hid (busyB us r = D) := ⟨_, hide rfl⟩
  rw [hD.out]
  go_enter Tryd.func47, Tryd.ntmps47
  go_upto_region 1 with fail
  refine wp_region_list ?_
  refine wpList_load_mid rfl 35 _ rfl _ _ rfl u _ hR1 Tryd.underlying35 rfl hiu ?_
  refine wpList_run1 rfl (exec_bs1 rfl rfl (bs_req hul W1)) ?_
  rw [hW2, hcb.out]
  go_wp2_with fail
  try rw [hW3]
  clear hW1 hW2 hW3 hR1
  obtain ⟨B5, hB5⟩ : ∃ B5, W2.heap.size = B5 := ⟨_, rfl⟩
  rw [hB5] at hF1 hX5 ⊢
  clear hB5 hB2 hF2 hr2
  go_loopw [6] (fun iv wr => ∃ i : Nat, i ≤ us.length ∧ iv = .int .i64 (i : Int) ∧ Hid (∀ x ∈ us.take i, meetB x.rs r = false) ∧ Below W3.heap.size W3 wr) (fun iv _ => us.length - (intOf iv).toNat)
  case atStart => exact ⟨0, by omega, rfl, hide (fun z hz => by simp at hz), Below.refl _ _⟩
  case round =>
    obtain ⟨i, hi, rfl, HN, hB⟩ := hrel
    by_cases hlt : i < us.length
    · have i1 : (i : Int) < (us.length : Int) := by omega
      have hBw : Below w.heap.size w wr := hB3.trans (hB.mono hB3.size)
      obtain ⟨ub, uo, rfl, hub, hre⟩ := (h.below hBw).elem (k := 2) (fun _ _ => rfl) i hlt
      have HT := hide (List.take_succ_eq_append_getElem hlt)
      have hmem : us[i] ∈ us := List.getElem_mem hlt
      have hxok := hok _ hmem
      generalize us[i] = x at *
      have hib : (Tryd.prog.info? 54).map (·.size) = some x.cells.length := by kernel_rfl
      go_upto_region 5 with fail
      obtain ⟨w8, hw8⟩ : ∃ w8, wr.drew = w8 := ⟨_, rfl⟩
      have hB8 : Below wr.heap.size wr w8 := by rw [← hw8]; exact (Below.refl _ _).drew
      have hB38 : Below W3.heap.size W3 w8 := hB.trans (hB8.mono hB.size)
      have hBw8 : Below w.heap.size w w8 := hBw.trans (hB8.mono hBw.size)
      have q1 := range_below hre hB8 hub
      have l1 : ub < w8.heap.size := Nat.lt_of_lt_of_le hub hB8.size
      have q5 := range_below hF1 hB38 hX5
      have l5 : B5 < w8.heap.size := Nat.lt_of_lt_of_le hX5 hB38.size
      have ku : ∀ w', Below w8.heap.size w8 w' → w'.rangeAt ub (uo + i * 2) x.cells := fun w' hw' => range_below q1 hw' l1
      have k5 : ∀ w', Below w8.heap.size w8 w' → w'.rangeAt B5 0 [.bool false, .slice (some ⟨cb, 0, none⟩) 1 1] := fun w' hw' => range_below q5 hw' l5
      have hx8 := hxok.2.2.below hBw8
      have hr8 := hr3.below hB38
      have cm := fun W h1 h2 => meet_any x.q x.a (some ⟨cb, 0, none⟩) x.cap 1 x.rs r W h1 h2
      obtain ⟨M, hM⟩ : ∃ M, Hid (meetB x.rs r = M) := ⟨_, hide rfl⟩
      simp only [hM.out] at cm
      refine hs_begin (S := (Below w8.heap.size w8)) 6 rfl (by kernel_rfl) ?_
      rw [hw8]
      clear hw8
      have hS : (Below w8.heap.size w8) w8 := Below.refl _ _
      refine hs_take (i := 0) (d := some 16) (v := ?_) rfl (by kernel_rfl) (by kernel_rfl) (by kernel_rfl) (by rfl) ?_ hS rfl ?_
      rotate_left
      · intro w' hw
        go_simp
        try with_reducible rfl
      simp only [Act.put, List.setIfInBounds_toArray, List.set_cons_zero, List.set_cons_succ]
      refine hs_take (i := 1) (d := some 17) (v := ?_) rfl (by kernel_rfl) (by kernel_rfl) (by kernel_rfl) (by rfl) ?_ hS rfl ?_
      rotate_left
      · intro w' hw
        go_simp
        try with_reducible rfl
      simp only [Act.put, List.setIfInBounds_toArray, List.set_cons_zero, List.set_cons_succ]
      refine hs_take (i := 2) (d := some 18) (v := ?_) rfl (by kernel_rfl) (by kernel_rfl) (by kernel_rfl) (by rfl) ?_ hS rfl ?_
      rotate_left
      · intro w' hw
        go_simp
        try with_reducible rfl
      simp only [Act.put, List.setIfInBounds_toArray, List.set_cons_zero, List.set_cons_succ]
      refine hs_take (i := 3) (d := some 19) (v := .agg x.cells.toArray) rfl (by kernel_rfl) (by kernel_rfl) (by kernel_rfl) (by rfl) (fun w' hw => exec_load rfl rfl (run_loadVar_mid (P := Tryd.prog) w' ub (uo + i * 2) 54 x.cells _ (ku w' hw) Tryd.underlying54 rfl hib)) hS rfl ?_
      simp only [Act.put, List.setIfInBounds_toArray, List.set_cons_zero, List.set_cons_succ]
      refine hs_take (i := 4) (d := some 20) (v := .agg #[.bool false, .slice (some ⟨cb, 0, none⟩) 1 1]) rfl (by kernel_rfl) (by kernel_rfl) (by kernel_rfl) (by rfl) (fun w' hw => exec_load rfl rfl (run_loadVar_mid (P := Tryd.prog) w' B5 0 54 [.bool false, .slice (some ⟨cb, 0, none⟩) 1 1] _ (k5 w' hw) Tryd.underlying54 rfl hib2)) hS rfl ?_
      simp only [Act.put, List.setIfInBounds_toArray, List.set_cons_zero, List.set_cons_succ]
      refine hs_call (i := 5) (d := some 21) rfl (by kernel_rfl) (by rfl) (by go_simp; first | done | exact ⟨rfl, rfl⟩ | with_reducible rfl) rfl ?_
      refine (cm w8 hx8 hr8).mono ?_
      rintro e' wA ⟨rfl, hbA⟩
      have hS : (Below w8.heap.size w8) wA := hbA
      refine ⟨_, rfl, hS, ?_⟩
      simp only [Act.put, List.setIfInBounds_toArray, List.set_cons_zero, List.set_cons_succ]
      refine hs_done (by kernel_rfl) ?_
      have hBA := hB38.trans (hS.mono hB38.size)
      cases M
      · have HN2 : Hid (∀ y ∈ us.take (i + 1), meetB y.rs r = false) := hide (fun y hy => by
          rw [HT.out] at hy
          rcases List.mem_append.1 hy with q | q
          · exact HN.out y q
          · rw [List.mem_singleton.1 q]; exact hM.out)
        clear HN HT hM
        go_wp2_with fail
        go_roundw
        case rel => exact ⟨i + 1, by omega, by go_num, HN2, hBA⟩
        case measure => simp [intOf]; omega
      · have HD : Hid (D = true) := hide (hD.out.symm.trans (List.any_eq_true.2 ⟨x, hmem, hM.out⟩))
        clear HN HT hM
        go_wp2_with fail
        go_ret
        exact ⟨by rw [HD.out]; rfl, hB3.trans (hBA.mono hB3.size)⟩
    · have i1 : ¬ (i : Int) < (us.length : Int) := by omega
      have HD : Hid (D = false) := hide (hD.out.symm.trans (by
        have : ∀ y ∈ us, meetB y.rs r = false := fun y hy => HN.out y (by rw [List.take_of_length_le (by omega)]; exact hy)
        unfold busyB
        rw [List.any_eq_false]
        intro y hy
        rw [this y hy]
        simp))
      clear HN
      go_wp2_with fail
      go_ret
      exact ⟨by rw [HD.out]; rfl, hB3.trans (hB.mono hB3.size)⟩
theorem once_mem {k : Nat} {zs : List Int} {z : Int} (hz : 0 ≤ z ∧ z < (k : Int)) : ∀ i, i ≤ zs.length → (z ∈ onceL k (zs.take i) ↔ z ∈ zs.take i) := by
  intro i
  induction i with
  | zero => intro _; simp [onceL]
  | succ i ih =>
    intro hi
    have h := ih (by omega)
    rw [once_take k zs i (by omega), List.take_succ_eq_append_getElem (show i < zs.length by omega)]
    by_cases he : zs[i] = z
    · rw [he]
      split
      · simp
      · rename_i q
        have : z ∈ onceL k (zs.take i) := Classical.byContradiction (fun hc => q ⟨hz, hc⟩)
        simp [this]
    · split
      · rw [List.mem_append, List.mem_append, h]
      · rw [h, List.mem_append]
        have : ¬ z = zs[i] := fun e => he e.symm
        simp [this]
def rbk (k : Nat) (L : List Rq) (z : Int) : List Rq := L.filter (inB k z)
def freeB (us : List Bx) (r : Rq) : Bool := !busyB us r
def rpickL (k : Nat) (us : List Bx) (most : Int) (bs : List Int) (L : List Rq) : List Rq := ((bs.flatMap (rbk k L)).filter (freeB us)).take most.toNat
theorem rpick_skip {k : Nat} {us : List Bx} {most : Int} {zs : List Int} {L : List Rq} {i : Nat} (hi : i < zs.length) (h : ¬ ((0 ≤ zs[i] ∧ zs[i] < (k : Int)) ∧ zs[i] ∉ zs.take i)) : rpickL k us most (onceL k (zs.take (i + 1))) L = rpickL k us most (onceL k (zs.take i)) L := by
  rw [once_take k zs i hi]
  split
  · rename_i q
    exact absurd ⟨q.1, fun hx => q.2 ((once_mem q.1 i (by omega)).2 hx)⟩ h
  · rfl
theorem rpick_more {k : Nat} {us : List Bx} {most : Int} {zs : List Int} {L : List Rq} {i : Nat} (hi : i < zs.length) (h : (0 ≤ zs[i] ∧ zs[i] < (k : Int)) ∧ zs[i] ∉ zs.take i) : rpickL k us most (onceL k (zs.take (i + 1))) L = ((((onceL k (zs.take i)).flatMap (rbk k L)) ++ rbk k L zs[i]).filter (freeB us)).take most.toNat := by
  rw [once_take k zs i hi, if_pos ⟨h.1, fun hx => h.2 ((once_mem h.1 i (by omega)).1 hx)⟩]
  unfold rpickL
  rw [List.flatMap_append]
  simp
theorem take_same {α : Type} {l m : List α} {n : Nat} (h : n ≤ (l.take n).length) : (l ++ m).take n = l.take n := by
  rw [List.length_take] at h
  rw [List.take_append_of_le_length (by omega)]
end Go.Proofs.YtbfcbjjhdadicaaDoor
namespace Go.Proofs.YtbfcbjjhdadicaaDoor
open Go.RowKit
open Sha Tal
theorem mul_step (i j n : Nat) (h : n ≤ i * 2000 + j) (hj : j ≤ 2000) : n ≤ (i + 1) * 2000 := by omega
theorem mul_top (i j n : Nat) (h : n ≤ i * 2000 + j) (hj : j ≤ 2000) (hi : i ≤ 1000) : n ≤ 100000000 := by omega
theorem take_snoc {α : Type} {F : List α} {n : Nat} (h : (F.take n).length < n) (r : α) : (F ++ [r]).take n = F.take n ++ [r] := by
  rw [List.length_take] at h
  rw [List.take_of_length_le (show F.length ≤ n by omega), List.take_of_length_le (by simp; omega)]
set_option maxRecDepth 100000 in
set_option maxHeartbeats 4000000 in
theorem rpick_any (rp k room : Nat) (a : Option Addr) (cap : Nat) (L : List Rq) (za : Option Addr) (zc : Nat) (zs : List Int) (most : Int) (ua : Option Addr) (uc : Nat) (us : List Bx) (w : World) (h : RefAt w rp k room a cap L) (hk : k ≤ 64) (hL : L.length ≤ 2000)
    (hz : IntsAt w za zs) (hzl : zs.length ≤ 1000) (hu : RowOf Bx.cells w ua us) (huo : ∀ x ∈ us, x.ok w) (hul : us.length ≤ 100000) :
    Calls Tryd.prog 27 #[rptr rp, .slice za zs.length zc, .int .i64 most, .slice ua us.length uc] w fun e w' => ∃ v, e = .returned v ∧ w'.ownsRow w.heap.size 35 19 v (rpickL k us most (onceL k zs) L).length (flatR (rpickL k us most (onceL k zs) L)) ∧ Below w.heap.size w w' := by
  unfold rptr
  go_enter Tryd.func27, Tryd.ntmps27
  go_wp2_with fail
  go_loopw [9, 10] (fun v iv wr => ∃ (i : Nat) (out : List Rq), i ≤ zs.length ∧ iv = .int .i64 (i : Int) ∧ Hid (out = rpickL k us most (onceL k (zs.take i)) L) ∧ out.length ≤ i * 2000 ∧ wr.ownsRow w.heap.size 35 19 v out.length (flatR out) ∧ Below w.heap.size w wr) (fun _ iv _ => zs.length - (intOf iv).toNat)
  case atStart => exact ⟨0, [], by omega, rfl, hide (by simp [rpickL, onceL]), by simp, World.ownsRow_nil _ _ _ _, Below.refl _ _⟩
  case round =>
    obtain ⟨i, out, hi, rfl, HO, hol, ho, hB⟩ := hrel
    obtain ⟨va, vcap, rfl⟩ := owns_slice ho
    by_cases hlt : i < zs.length
    · have i1 : (i : Int) < (zs.length : Int) := by omega
      have hr := h.below hB
      have hzr := hz.below hB
      obtain ⟨zb, zo, rfl, hc⟩ := hzr.cell hlt
      have cah := fun W (h0 : IntsAt W (some ⟨zb, zo, none⟩) zs) => ahead_any (some ⟨zb, zo, none⟩) zc zs i hlt (by omega) W h0
      have HS := hide (fun h0 => rpick_skip (k := k) (us := us) (most := most) (L := L) hlt h0)
      have HM := hide (fun h0 => rpick_more (k := k) (us := us) (most := most) (L := L) hlt h0)
      have hzb : zb < wr.heap.size := cell_lt hc
      have hrp := hr.lt
      obtain ⟨z, hzz⟩ : ∃ z, Hid (zs[i] = z) := ⟨_, hide rfl⟩
      simp only [hzz.out] at cah hc
      rw [hzz.out] at HS HM
      go_upto_region 5 with fail
      obtain ⟨w8, hw8⟩ : ∃ w8, wr.drew = w8 := ⟨_, rfl⟩
      have hB8 : Below wr.heap.size wr w8 := by rw [← hw8]; exact (Below.refl _ _).drew
      have e0 : ∀ w', Below w8.heap.size w8 w' → w'.cell? ⟨zb, zo + i, none⟩ = some (.int .i64 z) := fun w' hw' => cell_at hc ((hB8.trans (hw'.mono hB8.size)).block _ hzb)
      have k0 : ∀ w', Below w8.heap.size w8 w' → w'.cell? ⟨rp, 0, none⟩ = some (.int .i64 (k : Int)) := fun w' hw' => cell_at hr.c0 ((hB8.trans (hw'.mono hB8.size)).block _ hrp)
      have hz8 := hzr.below hB8
      by_cases hneg : z < 0
      · have HO2 : Hid (out = rpickL k us most (onceL k (zs.take (i + 1))) L) := hide (by rw [HS.out (fun q => by omega)]; exact HO.out)
        clear HS HM HO hr hzr
        refine hs_begin (S := (Below w8.heap.size w8)) 21 rfl (by kernel_rfl) ?_
        rw [hw8]
        clear hw8
        have hS : (Below w8.heap.size w8) w8 := Below.refl _ _
        refine hs_take (i := 0) (d := some 19) (v := ?_) rfl (by kernel_rfl) (by kernel_rfl) (by kernel_rfl) (by rfl) ?_ hS rfl ?_
        rotate_left
        · intro w' hw
          go_simp
          try with_reducible rfl
        simp only [Act.put, List.setIfInBounds_toArray, List.set_cons_zero, List.set_cons_succ]
        refine hs_take (i := 1) (d := some 20) (v := ?_) rfl (by kernel_rfl) (by kernel_rfl) (by kernel_rfl) (by rfl) ?_ hS rfl ?_
        rotate_left
        · intro w' hw
          go_simp
          try with_reducible rfl
        simp only [Act.put, List.setIfInBounds_toArray, List.set_cons_zero, List.set_cons_succ]
        refine hs_take (i := 2) (d := some 21) (v := ?_) rfl (by kernel_rfl) (by kernel_rfl) (by kernel_rfl) (by rfl) ?_ hS rfl ?_
        rotate_left
        · intro w' hw
          go_simp
          try with_reducible rfl
        simp only [Act.put, List.setIfInBounds_toArray, List.set_cons_zero, List.set_cons_succ]
        refine hs_take (i := 3) (d := some 22) (v := ?_) rfl (by kernel_rfl) (by kernel_rfl) (by kernel_rfl) (by rfl) ?_ hS rfl ?_
        rotate_left
        · intro w' hw
          have hc := e0 w' hw
          go_simp
          try with_reducible rfl
        simp only [Act.put, List.setIfInBounds_toArray, List.set_cons_zero, List.set_cons_succ]
        refine hs_take (i := 4) (d := some 23) (v := .bool true) rfl (by kernel_rfl) (by kernel_rfl) (by kernel_rfl) (by rfl) (fun w' hw => by go_simp) hS rfl ?_
        simp only [Act.put, List.setIfInBounds_toArray, List.set_cons_zero, List.set_cons_succ]
        refine hs_take (i := 5) (d := some 24) (v := ?_) rfl (by kernel_rfl) (by kernel_rfl) (by kernel_rfl) (by rfl) ?_ hS rfl ?_
        rotate_left
        · intro w' hw
          go_simp
          try with_reducible rfl
        simp only [Act.put, List.setIfInBounds_toArray, List.set_cons_zero, List.set_cons_succ]
        refine hs_skip (i := 6) (d := some 25) rfl (by kernel_rfl) (by kernel_rfl) (by kernel_rfl) (by rfl) hS rfl ?_
        simp only [Act.put, List.setIfInBounds_toArray, List.set_cons_zero, List.set_cons_succ]
        refine hs_skip (i := 7) (d := some 26) rfl (by kernel_rfl) (by kernel_rfl) (by kernel_rfl) (by rfl) hS rfl ?_
        simp only [Act.put, List.setIfInBounds_toArray, List.set_cons_zero, List.set_cons_succ]
        refine hs_skip (i := 8) (d := some 27) rfl (by kernel_rfl) (by kernel_rfl) (by kernel_rfl) (by rfl) hS rfl ?_
        simp only [Act.put, List.setIfInBounds_toArray, List.set_cons_zero, List.set_cons_succ]
        refine hs_skip (i := 9) (d := some 28) rfl (by kernel_rfl) (by kernel_rfl) (by kernel_rfl) (by rfl) hS rfl ?_
        simp only [Act.put, List.setIfInBounds_toArray, List.set_cons_zero, List.set_cons_succ]
        refine hs_skip (i := 10) (d := some 29) rfl (by kernel_rfl) (by kernel_rfl) (by kernel_rfl) (by rfl) hS rfl ?_
        simp only [Act.put, List.setIfInBounds_toArray, List.set_cons_zero, List.set_cons_succ]
        refine hs_skip (i := 11) (d := some 30) rfl (by kernel_rfl) (by kernel_rfl) (by kernel_rfl) (by rfl) hS rfl ?_
        simp only [Act.put, List.setIfInBounds_toArray, List.set_cons_zero, List.set_cons_succ]
        refine hs_skip (i := 12) (d := some 31) rfl (by kernel_rfl) (by kernel_rfl) (by kernel_rfl) (by rfl) hS rfl ?_
        simp only [Act.put, List.setIfInBounds_toArray, List.set_cons_zero, List.set_cons_succ]
        refine hs_skip (i := 13) (d := some 32) rfl (by kernel_rfl) (by kernel_rfl) (by kernel_rfl) (by rfl) hS rfl ?_
        simp only [Act.put, List.setIfInBounds_toArray, List.set_cons_zero, List.set_cons_succ]
        refine hs_skip (i := 14) (d := some 33) rfl (by kernel_rfl) (by kernel_rfl) (by kernel_rfl) (by rfl) hS rfl ?_
        simp only [Act.put, List.setIfInBounds_toArray, List.set_cons_zero, List.set_cons_succ]
        refine hs_take (i := 15) (d := some 34) (v := .bool true) rfl (by kernel_rfl) (by kernel_rfl) (by kernel_rfl) (by rfl) (fun w' hw => by go_simp) hS rfl ?_
        simp only [Act.put, List.setIfInBounds_toArray, List.set_cons_zero, List.set_cons_succ]
        refine hs_take (i := 16) (d := some 35) (v := ?_) rfl (by kernel_rfl) (by kernel_rfl) (by kernel_rfl) (by rfl) ?_ hS rfl ?_
        rotate_left
        · intro w' hw
          go_simp
          try with_reducible rfl
        simp only [Act.put, List.setIfInBounds_toArray, List.set_cons_zero, List.set_cons_succ]
        refine hs_skip (i := 17) (d := some 36) rfl (by kernel_rfl) (by kernel_rfl) (by kernel_rfl) (by rfl) hS rfl ?_
        simp only [Act.put, List.setIfInBounds_toArray, List.set_cons_zero, List.set_cons_succ]
        refine hs_skip (i := 18) (d := some 37) rfl (by kernel_rfl) (by kernel_rfl) (by kernel_rfl) (by rfl) hS rfl ?_
        simp only [Act.put, List.setIfInBounds_toArray, List.set_cons_zero, List.set_cons_succ]
        refine hs_skip (i := 19) (d := some 38) rfl (by kernel_rfl) (by kernel_rfl) (by kernel_rfl) (by rfl) hS rfl ?_
        simp only [Act.put, List.setIfInBounds_toArray, List.set_cons_zero, List.set_cons_succ]
        refine hs_take (i := 20) (d := some 39) (v := .bool true) rfl (by kernel_rfl) (by kernel_rfl) (by kernel_rfl) (by rfl) (fun w' hw => by go_simp) hS rfl ?_
        simp only [Act.put, List.setIfInBounds_toArray, List.set_cons_zero, List.set_cons_succ]
        refine hs_done (by kernel_rfl) ?_
        have hwA : Below wr.heap.size wr w8 := hB8
        have hoA := ownsB ho hwA
        go_wp2_with fail
        go_roundw
        case rel => exact ⟨i + 1, out, by omega, by go_num, HO2, mul_step i 0 _ hol (by omega), hoA, hB.trans (hwA.mono hB.size)⟩
        case measure => simp [intOf]; omega
      · by_cases hbig : (k : Int) ≤ z
        · have HO2 : Hid (out = rpickL k us most (onceL k (zs.take (i + 1))) L) := hide (by rw [HS.out (fun q => by omega)]; exact HO.out)
          clear HS HM HO hr hzr
          refine hs_begin (S := (Below w8.heap.size w8)) 21 rfl (by kernel_rfl) ?_
          rw [hw8]
          clear hw8
          have hS : (Below w8.heap.size w8) w8 := Below.refl _ _
          refine hs_take (i := 0) (d := some 19) (v := ?_) rfl (by kernel_rfl) (by kernel_rfl) (by kernel_rfl) (by rfl) ?_ hS rfl ?_
          rotate_left
          · intro w' hw
            go_simp
            try with_reducible rfl
          simp only [Act.put, List.setIfInBounds_toArray, List.set_cons_zero, List.set_cons_succ]
          refine hs_take (i := 1) (d := some 20) (v := ?_) rfl (by kernel_rfl) (by kernel_rfl) (by kernel_rfl) (by rfl) ?_ hS rfl ?_
          rotate_left
          · intro w' hw
            go_simp
            try with_reducible rfl
          simp only [Act.put, List.setIfInBounds_toArray, List.set_cons_zero, List.set_cons_succ]
          refine hs_take (i := 2) (d := some 21) (v := ?_) rfl (by kernel_rfl) (by kernel_rfl) (by kernel_rfl) (by rfl) ?_ hS rfl ?_
          rotate_left
          · intro w' hw
            go_simp
            try with_reducible rfl
          simp only [Act.put, List.setIfInBounds_toArray, List.set_cons_zero, List.set_cons_succ]
          refine hs_take (i := 3) (d := some 22) (v := ?_) rfl (by kernel_rfl) (by kernel_rfl) (by kernel_rfl) (by rfl) ?_ hS rfl ?_
          rotate_left
          · intro w' hw
            have hc := e0 w' hw
            go_simp
            try with_reducible rfl
          simp only [Act.put, List.setIfInBounds_toArray, List.set_cons_zero, List.set_cons_succ]
          refine hs_take (i := 4) (d := some 23) (v := .bool false) rfl (by kernel_rfl) (by kernel_rfl) (by kernel_rfl) (by rfl) (fun w' hw => by go_simp) hS rfl ?_
          simp only [Act.put, List.setIfInBounds_toArray, List.set_cons_zero, List.set_cons_succ]
          refine hs_take (i := 5) (d := some 24) (v := ?_) rfl (by kernel_rfl) (by kernel_rfl) (by kernel_rfl) (by rfl) ?_ hS rfl ?_
          rotate_left
          · intro w' hw
            go_simp
            try with_reducible rfl
          simp only [Act.put, List.setIfInBounds_toArray, List.set_cons_zero, List.set_cons_succ]
          refine hs_take (i := 6) (d := some 25) (v := ?_) rfl (by kernel_rfl) (by kernel_rfl) (by kernel_rfl) (by rfl) ?_ hS rfl ?_
          rotate_left
          · intro w' hw
            go_simp
            try with_reducible rfl
          simp only [Act.put, List.setIfInBounds_toArray, List.set_cons_zero, List.set_cons_succ]
          refine hs_take (i := 7) (d := some 26) (v := ?_) rfl (by kernel_rfl) (by kernel_rfl) (by kernel_rfl) (by rfl) ?_ hS rfl ?_
          rotate_left
          · intro w' hw
            go_simp
            try with_reducible rfl
          simp only [Act.put, List.setIfInBounds_toArray, List.set_cons_zero, List.set_cons_succ]
          refine hs_take (i := 8) (d := some 27) (v := ?_) rfl (by kernel_rfl) (by kernel_rfl) (by kernel_rfl) (by rfl) ?_ hS rfl ?_
          rotate_left
          · intro w' hw
            go_simp
            try with_reducible rfl
          simp only [Act.put, List.setIfInBounds_toArray, List.set_cons_zero, List.set_cons_succ]
          refine hs_take (i := 9) (d := some 28) (v := ?_) rfl (by kernel_rfl) (by kernel_rfl) (by kernel_rfl) (by rfl) ?_ hS rfl ?_
          rotate_left
          · intro w' hw
            have hc := e0 w' hw
            go_simp
            try with_reducible rfl
          simp only [Act.put, List.setIfInBounds_toArray, List.set_cons_zero, List.set_cons_succ]
          refine hs_take (i := 10) (d := some 29) (v := ?_) rfl (by kernel_rfl) (by kernel_rfl) (by kernel_rfl) (by rfl) ?_ hS rfl ?_
          rotate_left
          · intro w' hw
            go_simp
            try with_reducible rfl
          simp only [Act.put, List.setIfInBounds_toArray, List.set_cons_zero, List.set_cons_succ]
          refine hs_take (i := 11) (d := some 30) (v := ?_) rfl (by kernel_rfl) (by kernel_rfl) (by kernel_rfl) (by rfl) ?_ hS rfl ?_
          rotate_left
          · intro w' hw
            go_simp
            try with_reducible rfl
          simp only [Act.put, List.setIfInBounds_toArray, List.set_cons_zero, List.set_cons_succ]
          refine hs_take (i := 12) (d := some 31) (v := ?_) rfl (by kernel_rfl) (by kernel_rfl) (by kernel_rfl) (by rfl) ?_ hS rfl ?_
          rotate_left
          · intro w' hw
            go_simp
            try with_reducible rfl
          simp only [Act.put, List.setIfInBounds_toArray, List.set_cons_zero, List.set_cons_succ]
          refine hs_take (i := 13) (d := some 32) (v := ?_) rfl (by kernel_rfl) (by kernel_rfl) (by kernel_rfl) (by rfl) ?_ hS rfl ?_
          rotate_left
          · intro w' hw
            have hc := k0 w' hw
            go_simp
            try with_reducible rfl
          simp only [Act.put, List.setIfInBounds_toArray, List.set_cons_zero, List.set_cons_succ]
          refine hs_take (i := 14) (d := some 33) (v := .bool true) rfl (by kernel_rfl) (by kernel_rfl) (by kernel_rfl) (by rfl) (fun w' hw => by go_simp) hS rfl ?_
          simp only [Act.put, List.setIfInBounds_toArray, List.set_cons_zero, List.set_cons_succ]
          refine hs_take (i := 15) (d := some 34) (v := .bool true) rfl (by kernel_rfl) (by kernel_rfl) (by kernel_rfl) (by rfl) (fun w' hw => by go_simp) hS rfl ?_
          simp only [Act.put, List.setIfInBounds_toArray, List.set_cons_zero, List.set_cons_succ]
          refine hs_take (i := 16) (d := some 35) (v := ?_) rfl (by kernel_rfl) (by kernel_rfl) (by kernel_rfl) (by rfl) ?_ hS rfl ?_
          rotate_left
          · intro w' hw
            go_simp
            try with_reducible rfl
          simp only [Act.put, List.setIfInBounds_toArray, List.set_cons_zero, List.set_cons_succ]
          refine hs_skip (i := 17) (d := some 36) rfl (by kernel_rfl) (by kernel_rfl) (by kernel_rfl) (by rfl) hS rfl ?_
          simp only [Act.put, List.setIfInBounds_toArray, List.set_cons_zero, List.set_cons_succ]
          refine hs_skip (i := 18) (d := some 37) rfl (by kernel_rfl) (by kernel_rfl) (by kernel_rfl) (by rfl) hS rfl ?_
          simp only [Act.put, List.setIfInBounds_toArray, List.set_cons_zero, List.set_cons_succ]
          refine hs_skip (i := 19) (d := some 38) rfl (by kernel_rfl) (by kernel_rfl) (by kernel_rfl) (by rfl) hS rfl ?_
          simp only [Act.put, List.setIfInBounds_toArray, List.set_cons_zero, List.set_cons_succ]
          refine hs_take (i := 20) (d := some 39) (v := .bool true) rfl (by kernel_rfl) (by kernel_rfl) (by kernel_rfl) (by rfl) (fun w' hw => by go_simp) hS rfl ?_
          simp only [Act.put, List.setIfInBounds_toArray, List.set_cons_zero, List.set_cons_succ]
          refine hs_done (by kernel_rfl) ?_
          have hwA : Below wr.heap.size wr w8 := hB8
          have hoA := ownsB ho hwA
          go_wp2_with fail
          go_roundw
          case rel => exact ⟨i + 1, out, by omega, by go_num, HO2, mul_step i 0 _ hol (by omega), hoA, hB.trans (hwA.mono hB.size)⟩
          case measure => simp [intOf]; omega
        · by_cases hah : z ∈ zs.take i
          · have HO2 : Hid (out = rpickL k us most (onceL k (zs.take (i + 1))) L) := hide (by rw [HS.out (fun q => q.2 hah)]; exact HO.out)
            simp only [decide_eq_true hah] at cah
            clear HS HM HO hr hzr hah
            refine hs_begin (S := (Below w8.heap.size w8)) 21 rfl (by kernel_rfl) ?_
            rw [hw8]
            clear hw8
            have hS : (Below w8.heap.size w8) w8 := Below.refl _ _
            refine hs_take (i := 0) (d := some 19) (v := ?_) rfl (by kernel_rfl) (by kernel_rfl) (by kernel_rfl) (by rfl) ?_ hS rfl ?_
            rotate_left
            · intro w' hw
              go_simp
              try with_reducible rfl
            simp only [Act.put, List.setIfInBounds_toArray, List.set_cons_zero, List.set_cons_succ]
            refine hs_take (i := 1) (d := some 20) (v := ?_) rfl (by kernel_rfl) (by kernel_rfl) (by kernel_rfl) (by rfl) ?_ hS rfl ?_
            rotate_left
            · intro w' hw
              go_simp
              try with_reducible rfl
            simp only [Act.put, List.setIfInBounds_toArray, List.set_cons_zero, List.set_cons_succ]
            refine hs_take (i := 2) (d := some 21) (v := ?_) rfl (by kernel_rfl) (by kernel_rfl) (by kernel_rfl) (by rfl) ?_ hS rfl ?_
            rotate_left
            · intro w' hw
              go_simp
              try with_reducible rfl
            simp only [Act.put, List.setIfInBounds_toArray, List.set_cons_zero, List.set_cons_succ]
            refine hs_take (i := 3) (d := some 22) (v := ?_) rfl (by kernel_rfl) (by kernel_rfl) (by kernel_rfl) (by rfl) ?_ hS rfl ?_
            rotate_left
            · intro w' hw
              have hc := e0 w' hw
              go_simp
              try with_reducible rfl
            simp only [Act.put, List.setIfInBounds_toArray, List.set_cons_zero, List.set_cons_succ]
            refine hs_take (i := 4) (d := some 23) (v := .bool false) rfl (by kernel_rfl) (by kernel_rfl) (by kernel_rfl) (by rfl) (fun w' hw => by go_simp) hS rfl ?_
            simp only [Act.put, List.setIfInBounds_toArray, List.set_cons_zero, List.set_cons_succ]
            refine hs_take (i := 5) (d := some 24) (v := ?_) rfl (by kernel_rfl) (by kernel_rfl) (by kernel_rfl) (by rfl) ?_ hS rfl ?_
            rotate_left
            · intro w' hw
              go_simp
              try with_reducible rfl
            simp only [Act.put, List.setIfInBounds_toArray, List.set_cons_zero, List.set_cons_succ]
            refine hs_take (i := 6) (d := some 25) (v := ?_) rfl (by kernel_rfl) (by kernel_rfl) (by kernel_rfl) (by rfl) ?_ hS rfl ?_
            rotate_left
            · intro w' hw
              go_simp
              try with_reducible rfl
            simp only [Act.put, List.setIfInBounds_toArray, List.set_cons_zero, List.set_cons_succ]
            refine hs_take (i := 7) (d := some 26) (v := ?_) rfl (by kernel_rfl) (by kernel_rfl) (by kernel_rfl) (by rfl) ?_ hS rfl ?_
            rotate_left
            · intro w' hw
              go_simp
              try with_reducible rfl
            simp only [Act.put, List.setIfInBounds_toArray, List.set_cons_zero, List.set_cons_succ]
            refine hs_take (i := 8) (d := some 27) (v := ?_) rfl (by kernel_rfl) (by kernel_rfl) (by kernel_rfl) (by rfl) ?_ hS rfl ?_
            rotate_left
            · intro w' hw
              go_simp
              try with_reducible rfl
            simp only [Act.put, List.setIfInBounds_toArray, List.set_cons_zero, List.set_cons_succ]
            refine hs_take (i := 9) (d := some 28) (v := ?_) rfl (by kernel_rfl) (by kernel_rfl) (by kernel_rfl) (by rfl) ?_ hS rfl ?_
            rotate_left
            · intro w' hw
              have hc := e0 w' hw
              go_simp
              try with_reducible rfl
            simp only [Act.put, List.setIfInBounds_toArray, List.set_cons_zero, List.set_cons_succ]
            refine hs_take (i := 10) (d := some 29) (v := ?_) rfl (by kernel_rfl) (by kernel_rfl) (by kernel_rfl) (by rfl) ?_ hS rfl ?_
            rotate_left
            · intro w' hw
              go_simp
              try with_reducible rfl
            simp only [Act.put, List.setIfInBounds_toArray, List.set_cons_zero, List.set_cons_succ]
            refine hs_take (i := 11) (d := some 30) (v := ?_) rfl (by kernel_rfl) (by kernel_rfl) (by kernel_rfl) (by rfl) ?_ hS rfl ?_
            rotate_left
            · intro w' hw
              go_simp
              try with_reducible rfl
            simp only [Act.put, List.setIfInBounds_toArray, List.set_cons_zero, List.set_cons_succ]
            refine hs_take (i := 12) (d := some 31) (v := ?_) rfl (by kernel_rfl) (by kernel_rfl) (by kernel_rfl) (by rfl) ?_ hS rfl ?_
            rotate_left
            · intro w' hw
              go_simp
              try with_reducible rfl
            simp only [Act.put, List.setIfInBounds_toArray, List.set_cons_zero, List.set_cons_succ]
            refine hs_take (i := 13) (d := some 32) (v := ?_) rfl (by kernel_rfl) (by kernel_rfl) (by kernel_rfl) (by rfl) ?_ hS rfl ?_
            rotate_left
            · intro w' hw
              have hc := k0 w' hw
              go_simp
              try with_reducible rfl
            simp only [Act.put, List.setIfInBounds_toArray, List.set_cons_zero, List.set_cons_succ]
            refine hs_take (i := 14) (d := some 33) (v := .bool false) rfl (by kernel_rfl) (by kernel_rfl) (by kernel_rfl) (by rfl) (fun w' hw => by go_simp) hS rfl ?_
            simp only [Act.put, List.setIfInBounds_toArray, List.set_cons_zero, List.set_cons_succ]
            refine hs_take (i := 15) (d := some 34) (v := .bool false) rfl (by kernel_rfl) (by kernel_rfl) (by kernel_rfl) (by rfl) (fun w' hw => by go_simp) hS rfl ?_
            simp only [Act.put, List.setIfInBounds_toArray, List.set_cons_zero, List.set_cons_succ]
            refine hs_take (i := 16) (d := some 35) (v := ?_) rfl (by kernel_rfl) (by kernel_rfl) (by kernel_rfl) (by rfl) ?_ hS rfl ?_
            rotate_left
            · intro w' hw
              go_simp
              try with_reducible rfl
            simp only [Act.put, List.setIfInBounds_toArray, List.set_cons_zero, List.set_cons_succ]
            refine hs_take (i := 17) (d := some 36) (v := ?_) rfl (by kernel_rfl) (by kernel_rfl) (by kernel_rfl) (by rfl) ?_ hS rfl ?_
            rotate_left
            · intro w' hw
              go_simp
              try with_reducible rfl
            simp only [Act.put, List.setIfInBounds_toArray, List.set_cons_zero, List.set_cons_succ]
            refine hs_take (i := 18) (d := some 37) (v := ?_) rfl (by kernel_rfl) (by kernel_rfl) (by kernel_rfl) (by rfl) ?_ hS rfl ?_
            rotate_left
            · intro w' hw
              go_simp
              try with_reducible rfl
            simp only [Act.put, List.setIfInBounds_toArray, List.set_cons_zero, List.set_cons_succ]
            refine hs_call (i := 19) (d := some 38) rfl (by kernel_rfl) (by rfl) (by go_simp; first | done | exact ⟨rfl, rfl⟩ | with_reducible rfl) rfl ?_
            refine (cah w8 hz8).mono ?_
            rintro e' wA ⟨rfl, hbA⟩
            have hS : (Below w8.heap.size w8) wA := hbA
            refine ⟨_, rfl, hS, ?_⟩
            simp only [Act.put, List.setIfInBounds_toArray, List.set_cons_zero, List.set_cons_succ]
            refine hs_take (i := 20) (d := some 39) (v := ?_) rfl (by kernel_rfl) (by kernel_rfl) (by kernel_rfl) (by rfl) ?_ hS rfl ?_
            rotate_left
            · intro w' hw
              go_simp
              try with_reducible rfl
            simp only [Act.put, List.setIfInBounds_toArray, List.set_cons_zero, List.set_cons_succ]
            refine hs_done (by kernel_rfl) ?_
            have hwA : Below wr.heap.size wr wA := hB8.trans (hS.mono hB8.size)
            have hoA := ownsB ho hwA
            go_wp2_with fail
            go_roundw
            case rel => exact ⟨i + 1, out, by omega, by go_num, HO2, mul_step i 0 _ hol (by omega), hoA, hB.trans (hwA.mono hB.size)⟩
            case measure => simp [intOf]; omega
          · have HM2 := hide (HM.out ⟨⟨by omega, by omega⟩, hah⟩)
            simp only [decide_eq_false hah] at cah
            clear HS HM hah
            refine hs_begin (S := (Below w8.heap.size w8)) 21 rfl (by kernel_rfl) ?_
            rw [hw8]
            clear hw8
            have hS : (Below w8.heap.size w8) w8 := Below.refl _ _
            refine hs_take (i := 0) (d := some 19) (v := ?_) rfl (by kernel_rfl) (by kernel_rfl) (by kernel_rfl) (by rfl) ?_ hS rfl ?_
            rotate_left
            · intro w' hw
              go_simp
              try with_reducible rfl
            simp only [Act.put, List.setIfInBounds_toArray, List.set_cons_zero, List.set_cons_succ]
            refine hs_take (i := 1) (d := some 20) (v := ?_) rfl (by kernel_rfl) (by kernel_rfl) (by kernel_rfl) (by rfl) ?_ hS rfl ?_
            rotate_left
            · intro w' hw
              go_simp
              try with_reducible rfl
            simp only [Act.put, List.setIfInBounds_toArray, List.set_cons_zero, List.set_cons_succ]
            refine hs_take (i := 2) (d := some 21) (v := ?_) rfl (by kernel_rfl) (by kernel_rfl) (by kernel_rfl) (by rfl) ?_ hS rfl ?_
            rotate_left
            · intro w' hw
              go_simp
              try with_reducible rfl
            simp only [Act.put, List.setIfInBounds_toArray, List.set_cons_zero, List.set_cons_succ]
            refine hs_take (i := 3) (d := some 22) (v := ?_) rfl (by kernel_rfl) (by kernel_rfl) (by kernel_rfl) (by rfl) ?_ hS rfl ?_
            rotate_left
            · intro w' hw
              have hc := e0 w' hw
              go_simp
              try with_reducible rfl
            simp only [Act.put, List.setIfInBounds_toArray, List.set_cons_zero, List.set_cons_succ]
            refine hs_take (i := 4) (d := some 23) (v := .bool false) rfl (by kernel_rfl) (by kernel_rfl) (by kernel_rfl) (by rfl) (fun w' hw => by go_simp) hS rfl ?_
            simp only [Act.put, List.setIfInBounds_toArray, List.set_cons_zero, List.set_cons_succ]
            refine hs_take (i := 5) (d := some 24) (v := ?_) rfl (by kernel_rfl) (by kernel_rfl) (by kernel_rfl) (by rfl) ?_ hS rfl ?_
            rotate_left
            · intro w' hw
              go_simp
              try with_reducible rfl
            simp only [Act.put, List.setIfInBounds_toArray, List.set_cons_zero, List.set_cons_succ]
            refine hs_take (i := 6) (d := some 25) (v := ?_) rfl (by kernel_rfl) (by kernel_rfl) (by kernel_rfl) (by rfl) ?_ hS rfl ?_
            rotate_left
            · intro w' hw
              go_simp
              try with_reducible rfl
            simp only [Act.put, List.setIfInBounds_toArray, List.set_cons_zero, List.set_cons_succ]
            refine hs_take (i := 7) (d := some 26) (v := ?_) rfl (by kernel_rfl) (by kernel_rfl) (by kernel_rfl) (by rfl) ?_ hS rfl ?_
            rotate_left
            · intro w' hw
              go_simp
              try with_reducible rfl
            simp only [Act.put, List.setIfInBounds_toArray, List.set_cons_zero, List.set_cons_succ]
            refine hs_take (i := 8) (d := some 27) (v := ?_) rfl (by kernel_rfl) (by kernel_rfl) (by kernel_rfl) (by rfl) ?_ hS rfl ?_
            rotate_left
            · intro w' hw
              go_simp
              try with_reducible rfl
            simp only [Act.put, List.setIfInBounds_toArray, List.set_cons_zero, List.set_cons_succ]
            refine hs_take (i := 9) (d := some 28) (v := ?_) rfl (by kernel_rfl) (by kernel_rfl) (by kernel_rfl) (by rfl) ?_ hS rfl ?_
            rotate_left
            · intro w' hw
              have hc := e0 w' hw
              go_simp
              try with_reducible rfl
            simp only [Act.put, List.setIfInBounds_toArray, List.set_cons_zero, List.set_cons_succ]
            refine hs_take (i := 10) (d := some 29) (v := ?_) rfl (by kernel_rfl) (by kernel_rfl) (by kernel_rfl) (by rfl) ?_ hS rfl ?_
            rotate_left
            · intro w' hw
              go_simp
              try with_reducible rfl
            simp only [Act.put, List.setIfInBounds_toArray, List.set_cons_zero, List.set_cons_succ]
            refine hs_take (i := 11) (d := some 30) (v := ?_) rfl (by kernel_rfl) (by kernel_rfl) (by kernel_rfl) (by rfl) ?_ hS rfl ?_
            rotate_left
            · intro w' hw
              go_simp
              try with_reducible rfl
            simp only [Act.put, List.setIfInBounds_toArray, List.set_cons_zero, List.set_cons_succ]
            refine hs_take (i := 12) (d := some 31) (v := ?_) rfl (by kernel_rfl) (by kernel_rfl) (by kernel_rfl) (by rfl) ?_ hS rfl ?_
            rotate_left
            · intro w' hw
              go_simp
              try with_reducible rfl
            simp only [Act.put, List.setIfInBounds_toArray, List.set_cons_zero, List.set_cons_succ]
            refine hs_take (i := 13) (d := some 32) (v := ?_) rfl (by kernel_rfl) (by kernel_rfl) (by kernel_rfl) (by rfl) ?_ hS rfl ?_
            rotate_left
            · intro w' hw
              have hc := k0 w' hw
              go_simp
              try with_reducible rfl
            simp only [Act.put, List.setIfInBounds_toArray, List.set_cons_zero, List.set_cons_succ]
            refine hs_take (i := 14) (d := some 33) (v := .bool false) rfl (by kernel_rfl) (by kernel_rfl) (by kernel_rfl) (by rfl) (fun w' hw => by go_simp) hS rfl ?_
            simp only [Act.put, List.setIfInBounds_toArray, List.set_cons_zero, List.set_cons_succ]
            refine hs_take (i := 15) (d := some 34) (v := .bool false) rfl (by kernel_rfl) (by kernel_rfl) (by kernel_rfl) (by rfl) (fun w' hw => by go_simp) hS rfl ?_
            simp only [Act.put, List.setIfInBounds_toArray, List.set_cons_zero, List.set_cons_succ]
            refine hs_take (i := 16) (d := some 35) (v := ?_) rfl (by kernel_rfl) (by kernel_rfl) (by kernel_rfl) (by rfl) ?_ hS rfl ?_
            rotate_left
            · intro w' hw
              go_simp
              try with_reducible rfl
            simp only [Act.put, List.setIfInBounds_toArray, List.set_cons_zero, List.set_cons_succ]
            refine hs_take (i := 17) (d := some 36) (v := ?_) rfl (by kernel_rfl) (by kernel_rfl) (by kernel_rfl) (by rfl) ?_ hS rfl ?_
            rotate_left
            · intro w' hw
              go_simp
              try with_reducible rfl
            simp only [Act.put, List.setIfInBounds_toArray, List.set_cons_zero, List.set_cons_succ]
            refine hs_take (i := 18) (d := some 37) (v := ?_) rfl (by kernel_rfl) (by kernel_rfl) (by kernel_rfl) (by rfl) ?_ hS rfl ?_
            rotate_left
            · intro w' hw
              go_simp
              try with_reducible rfl
            simp only [Act.put, List.setIfInBounds_toArray, List.set_cons_zero, List.set_cons_succ]
            refine hs_call (i := 19) (d := some 38) rfl (by kernel_rfl) (by rfl) (by go_simp; first | done | exact ⟨rfl, rfl⟩ | with_reducible rfl) rfl ?_
            refine (cah w8 hz8).mono ?_
            rintro e' wA ⟨rfl, hbA⟩
            have hS : (Below w8.heap.size w8) wA := hbA
            refine ⟨_, rfl, hS, ?_⟩
            simp only [Act.put, List.setIfInBounds_toArray, List.set_cons_zero, List.set_cons_succ]
            refine hs_take (i := 20) (d := some 39) (v := ?_) rfl (by kernel_rfl) (by kernel_rfl) (by kernel_rfl) (by rfl) ?_ hS rfl ?_
            rotate_left
            · intro w' hw
              go_simp
              try with_reducible rfl
            simp only [Act.put, List.setIfInBounds_toArray, List.set_cons_zero, List.set_cons_succ]
            refine hs_done (by kernel_rfl) ?_
            have hwA : Below wr.heap.size wr wA := hB8.trans (hS.mono hB8.size)
            have hoA := ownsB ho hwA
            have hBA := hB.trans (hwA.mono hB.size)
            have cIn := rin_any rp k room a cap L z wA (h.below hBA) hk (by omega)
            have hcA := cell_at hc (hwA.block _ hzb)
            have hll : (rbk k L z).length ≤ 2000 := Nat.le_trans (List.length_filter_le _ _) hL
            have hrk : ∀ r ∈ rbk k L z, r.ok := fun r hr2 => h.row.2.1 r (List.mem_filter.1 hr2).1
            have cIn : Calls Tryd.prog 18 #[.pointer (some ⟨rp, 0, none⟩), .int .i64 z] wA fun e w' => ∃ v, e = .returned v ∧ w'.ownsRow wA.heap.size 35 19 v (rbk k L z).length (flatR (rbk k L z)) ∧ Below wA.heap.size wA w' := cIn
            have HX : Hid (out = (((onceL k (zs.take i)).flatMap (rbk k L)).filter (freeB us)).take most.toNat) := hide HO.out
            generalize rbk k L z = l at *
            generalize (onceL k (zs.take i)).flatMap (rbk k L) = X at *
            clear HO hr hzr ho hB8 hwA
            go_wp2_with fail
            refine cIn.mono ?_
            rintro e w4 ⟨v, rfl, hlv, hb4⟩
            obtain ⟨la, lcap, rfl, -, -, hRA, -⟩ := own_reqs0 hlv hrk (by unfold maxLen; omega)
            have hB4 := hBA.trans (hb4.mono hBA.size)
            have ho4 := ownsB hoA hb4
            have hlb : ∀ x, la = some x → wA.heap.size ≤ x.block := fun x hx => owns_base hlv _ (by rw [hx]; rfl)
            have hlx : ∀ x, la = some x → x.block < w4.heap.size := fun x hx => owns_lt hlv (by rw [hx]; rfl)
            have hne : ∀ g, (Value.slice va out.length vcap).ownBlock = some g → ∀ x, la = some x → x.block ≠ g := fun g hg x hx => by
              have e1 := owns_lt hoA hg
              have e2 := hlb x hx
              omega
            clear cIn hlv hoA hlb
            go_wp2_with fail
            go_loopw [9, 12] (fun v iv wq => ∃ (j : Nat) (o2 : List Rq), j ≤ l.length ∧ iv = .int .i64 (j : Int) ∧ Hid (o2 = ((X ++ l.take j).filter (freeB us)).take most.toNat) ∧ o2.length ≤ i * 2000 + j ∧ wq.ownsRow w.heap.size 35 19 v o2.length (flatR o2) ∧ ReqsAt wq la l ∧ (∀ g, v.ownBlock = some g → ∀ x, la = some x → x.block ≠ g) ∧ (∀ x, la = some x → x.block < wq.heap.size) ∧ Below w.heap.size w wq) (fun _ iv _ => l.length - (intOf iv).toNat)
            case atStart => exact ⟨0, out, by omega, rfl, hide (by rw [HX.out]; simp), by omega, ho4, hRA, hne, hlx, hB4⟩
            case round =>
              clear ho4 hRA hne hlx hB4 HX
              obtain ⟨j, o2, hj, rfl, HO, hol2, ho, hRA, hne, hlx, hB4⟩ := hrel
              obtain ⟨va2, vcap2, rfl⟩ := owns_slice ho
              by_cases hlt2 : j < l.length
              · have j1 : (j : Int) < (l.length : Int) := by omega
                by_cases hst : (o2.length : Int) < most
                · have HT := hide (List.take_succ_eq_append_getElem hlt2)
                  obtain ⟨b, off, rfl, hb, hre⟩ := hRA.elem j hlt2
                  have hok := hrk _ (List.getElem_mem hlt2)
                  generalize l[j] = r at *
                  have hiu := hok.isz
                  have hule := hok.length
                  have hu1 := r.one
                  have cbz := busy_any ua uc us r wr hok (hu.below hB4) (fun x hx => ⟨(huo x hx).1, (huo x hx).2.1, (huo x hx).2.2.below hB4⟩) hul
                  obtain ⟨u, huq⟩ : ∃ u, Hid (r.cells = u) := ⟨_, hide rfl⟩
                  rw [huq.out] at hre hiu hule hu1 cbz
                  obtain ⟨bz, hbz⟩ : ∃ bz, Hid (busyB us r = bz) := ⟨_, hide rfl⟩
                  rw [hbz.out] at cbz
                  have hlen : o2.length < most.toNat := by omega
                  go_upto_region 10 with fail
                  refine wp_region_list ?_
                  refine wpList_step fun K hK => ?_
                  go_simp
                  refine hK _ _ ?_
                  clear hK K
                  refine wpList_step fun K hK => ?_
                  go_simp
                  refine hK _ _ ?_
                  clear hK K
                  refine wpList_step fun K hK => ?_
                  go_simp
                  refine hK _ _ ?_
                  clear hK K
                  refine wpList_step fun K hK => ?_
                  go_simp
                  refine hK _ _ ?_
                  clear hK K
                  refine wpList_load_mid rfl 35 _ rfl _ _ rfl u _ hre Tryd.underlying35 rfl hiu ?_
                  go_wp2_with fail
                  refine cbz.mono ?_
                  rintro e w5 ⟨rfl, hb5⟩
                  have hB5 := hB4.trans (hb5.mono hB4.size)
                  have ho5 := ownsB ho hb5
                  have hRA5 := hRA.below hb5
                  have hre5 := range_below hre hb5 hb
                  have hlx5 : ∀ x, some (⟨b, off, none⟩ : Addr) = some x → x.block < w5.heap.size := fun x hx => Nat.lt_of_lt_of_le (hlx x hx) hb5.size
                  clear cbz ho hRA hlx
                  cases bz
                  · have HO2 : Hid (o2 ++ [r] = ((X ++ l.take (j + 1)).filter (freeB us)).take most.toNat) := hide (by
                      rw [HT.out, ← List.append_assoc, List.filter_append (l₁ := X ++ l.take j)]
                      have e1 : [r].filter (freeB us) = [r] := by simp [freeB, hbz.out]
                      rw [e1, take_snoc (by rw [← HO.out]; exact hlen), ← HO.out])
                    clear HO HT hbz
                    obtain ⟨v', wF, hrun, hoF, hgr, hap⟩ := append_reqB hB5.size ho5 hule hu1 (mul_top i j _ hol2 (by omega) (by omega)) 43
                    have hRAF : ReqsAt wF (some ⟨b, off, none⟩) l := by
                      refine ⟨hRA5.1, hRA5.2.1, ?_⟩
                      rcases hRA5.2.2 with q | ⟨b', off', he, hb', hr'⟩
                      · exact .inl q
                      · cases he
                        exact .inr ⟨b, off, rfl, Nat.lt_of_lt_of_le hb' hgr.size, range_at hr' (hgr.block b hb' (fun e => hne _ e.symm _ rfl rfl))⟩
                    have hne2 : ∀ g, v'.ownBlock = some g → ∀ x, some (⟨b, off, none⟩ : Addr) = some x → x.block ≠ g := fun g hg x hx => by
                      rcases hap g hg with q | q
                      · exact hne g q x hx
                      · have := hlx5 x hx; omega
                    have hBF := hB5.grown hgr hB5.size (owns_base ho5)
                    go_upto_region 11 with fail
                    refine wp_region_list ?_
                    refine wpList_step fun K hK => ?_
                    go_simp
                    refine hK _ _ ?_
                    clear hK K
                    refine wpList_step fun K hK => ?_
                    go_simp
                    refine hK _ _ ?_
                    clear hK K
                    refine wpList_step fun K hK => ?_
                    go_simp
                    refine hK _ _ ?_
                    clear hK K
                    refine wpList_step fun K hK => ?_
                    go_simp
                    refine hK _ _ ?_
                    clear hK K
                    refine wpList_load_mid rfl 35 _ rfl _ _ rfl u _ hre5 Tryd.underlying35 rfl hiu ?_
                    refine wpList_run1 rfl (exec_bs1 rfl rfl (bs_req hule w5)) ?_
                    refine wpList_run1 rfl (exec_append1 rfl rfl rfl hrun) ?_
                    obtain ⟨va3, vcap3, rfl⟩ := owns_slice hoF
                    go_wp2_with fail
                    go_roundw
                    case rel =>
                      refine ⟨j + 1, o2 ++ [r], by omega, by go_num, HO2, by simp; omega, ?_, hRAF, by simpa using hne2, fun x hx => Nat.lt_of_lt_of_le (hlx5 x hx) hgr.size, hBF⟩
                      rw [flatR_append]
                      have ex : flatR [r] = u := by rw [← huq.out]; simp [flatR]
                      rw [ex]
                      simpa using hoF
                    case measure => simp [intOf]; omega
                  · have HO2 : Hid (o2 = ((X ++ l.take (j + 1)).filter (freeB us)).take most.toNat) := hide (by
                      rw [HT.out, ← List.append_assoc, List.filter_append (l₁ := X ++ l.take j)]
                      have e1 : [r].filter (freeB us) = [] := by simp [freeB, hbz.out]
                      rw [e1, List.append_nil, ← HO.out])
                    clear HO HT hbz
                    go_wp2_with fail
                    go_roundw
                    case rel => exact ⟨j + 1, o2, by omega, by go_num, HO2, by omega, ho5, hRA5, hne, hlx5, hB5⟩
                    case measure => simp [intOf]; omega
                · have HO2 : Hid (o2 = rpickL k us most (onceL k (zs.take (i + 1))) L) := hide (by
                    rw [HM2.out]
                    have e : X ++ l = (X ++ l.take j) ++ l.drop j := by rw [List.append_assoc, List.take_append_drop]
                    rw [e, List.filter_append (l₁ := X ++ l.take j), take_same (by rw [← HO.out]; omega)]
                    exact HO.out)
                  clear HO HM2
                  go_wp2_with fail
                  go_roundw
                  case rel => exact ⟨i + 1, o2, by omega, by go_num, HO2, mul_step i j _ hol2 (by omega), ho, hB4⟩
                  case measure => simp [intOf]; omega
              · have j1 : ¬ (j : Int) < (l.length : Int) := by omega
                have HO2 : Hid (o2 = rpickL k us most (onceL k (zs.take (i + 1))) L) := hide (by
                  rw [HM2.out, HO.out, List.take_of_length_le (show l.length ≤ j by omega)])
                clear HO HM2
                go_wp2_with fail
                go_roundw
                case rel => exact ⟨i + 1, o2, by omega, by go_num, HO2, mul_step i j _ hol2 (by omega), ho, hB4⟩
                case measure => simp [intOf]; omega
    · have i1 : ¬ (i : Int) < (zs.length : Int) := by omega
      have HF : Hid (out = rpickL k us most (onceL k zs) L) := hide (by rw [HO.out, List.take_of_length_le (by omega)])
      clear HO
      go_wp2_with fail
      go_ret
      exact ⟨_, rfl, by rw [← HF.out]; exact ho, hB⟩
end Go.Proofs.YtbfcbjjhdadicaaDoor
