/- message's reader: what the chapter's example needs; what was put is read back; Decode of a status; the chapter's example; rows of signs, envelopes, requests; envelopes and requests compared -/
import Derived.Test.YtahdmajppnffeaaJM3
import Derived.Lib.ConvBytes
import Derived.Laws.ResultCell
namespace Go.Proofs.Ytahdmajppnffeaa
open Go.RowKit
open Sha Tal
/-- a string's bytes, laid anew -/
theorem bytes_of (s : ByteArray) (hs : s.size ≤ 1099511627) (w : World) : ∃ c w1, (convert 9 57 (.string s)).run Try.prog w = .ok (.slice (some ⟨w.heap.size, 0, none⟩) (strL s).length c) w1 ∧ RowAt w1 (some ⟨w.heap.size, 0, none⟩) (strL s) ∧ Below w.heap.size w w1 := by
  refine ⟨grownCap w s.size 0 5, Lib.bytesWorld w 5 s, ?_, ?_, ?_⟩
  · rw [Lib.run_convert_string_bytes w 9 57 5 s Try.underlying9 Try.underlying57 Try.underlying5, strL_length]
  · refine ⟨by rw [strL_length]; unfold maxLen; omega, strL_byte s, .inr ⟨_, _, rfl, by rw [Lib.bytesWorld_size]; omega, fun j v hv => ?_⟩⟩
    have hj : j < s.size := by
      have := (List.getElem?_eq_some_iff.1 hv).1
      rwa [v8_length, strL_length] at this
    rw [Nat.zero_add, Lib.bytesWorld_cell w 5 s j hj, ← hv]
    have hj' : j < s.data.toList.length := by simpa using hj
    simp only [v8, strL, List.map_map, List.getElem?_map, List.getElem?_eq_getElem hj', List.getD_eq_getElem?_getD, Option.getD_some, Option.map_some, Function.comp]
  · exact ⟨rfl, rfl, rfl, by rw [Lib.bytesWorld_size]; omega, fun k hk => Lib.bytesWorld_at_old w 5 s k hk⟩
/-- a message's reader at Q over a reader at R -/
structure MrAt (w : World) (Q R : Nat) (z : Bool) : Prop where
  lt : Q < w.heap.size
  ne : R < Q
  c0 : w.cell? ⟨Q, 0, none⟩ = some (.pointer (some ⟨R, 0, none⟩))
  c1 : w.cell? ⟨Q, 1, none⟩ = some (.bool z)
  f1 : w.frozen? ⟨Q, 1, none⟩ = false
theorem MrAt.at {w w' : World} {Q R : Nat} {z : Bool} (h : MrAt w Q R z) (hb : w'.heap[Q]? = w.heap[Q]?) (hs : w.heap.size ≤ w'.heap.size) : MrAt w' Q R z :=
  ⟨Nat.lt_of_lt_of_le h.lt hs, h.ne, (cell_block hb).1.trans h.c0, (cell_block hb).1.trans h.c1, (cell_block hb).2.trans h.f1⟩
theorem MrAt.gb {w w' : World} {Q R : Nat} {z : Bool} (h : MrAt w Q R z) (hg : w.grownBy w' (some R)) : MrAt w' Q R z :=
  h.at (hg.block Q h.lt (fun e => by have := h.ne; cases e; omega)) hg.size
theorem MrAt.below {w w' : World} {Q R : Nat} {z : Bool} (h : MrAt w Q R z) (hb : Below w.heap.size w w') : MrAt w' Q R z := h.at (hb.block Q h.lt) hb.size
set_option maxRecDepth 100000 in
set_option maxHeartbeats 2000000 in
theorem newReader_any (s : ByteArray) (hs : s.size ≤ 1099511627) (w : World) : Calls Try.prog 14 #[.string s] w fun e w' => ∃ Q R, e = .returned (.pointer (some ⟨Q, 0, none⟩)) ∧ w.heap.size ≤ R ∧ St w' R (strL s) 0 ∧ MrAt w' Q R false ∧ Below w.heap.size w w' := by
  obtain ⟨c, w1, hc, hr, hB⟩ := bytes_of s hs w
  have hl : (strL s).length ≤ 549755813888 := by rw [strL_length]; omega
  have cr := read_any (some ⟨w.heap.size, 0, none⟩) c (strL s) w1 hr hl
  generalize strL s = zs at *
  go_enter Try.func14, Try.ntmps14
  go_wp2_with fail
  refine cr.mono ?_
  rintro e w2 ⟨R, rfl, hR, hSt, hb2⟩
  have hB2 := hB.trans (hb2.mono hB.size)
  have hB3 : Below w2.heap.size w2 (w2.alloc (.cells #[.pointer (some ⟨R, 0, none⟩), .bool false] 91)) := (Below.refl _ _).alloc (Nat.le_refl _) _
  have hB4 := hB2.trans (hB3.mono hB2.size)
  have hRl := hSt.1.1
  have hSt3 := hSt.below hB3
  have hQ : MrAt (w2.alloc (.cells #[.pointer (some ⟨R, 0, none⟩), .bool false] 91)) w2.heap.size R false :=
    ⟨by simp, hRl, World.cell?_alloc_at _ _ _ _ rfl, World.cell?_alloc_at _ _ _ _ rfl, World.frozen?_alloc_at _ _ _ _ rfl⟩
  have hRw : w.heap.size ≤ R := by have := hB.size; omega
  clear cr hc hr hSt hB3 hB2 hb2 hB
  go_wp2_with fail
  go_ret
  exact ⟨_, R, rfl, hRw, hSt3, hQ, hB4⟩
/-- what Done answers -/
def doneE (rest : List Int) (e : Int) : Int := if e = 0 then (if rest.length = 0 then 0 else 12) else e
set_option maxRecDepth 100000 in
set_option maxHeartbeats 2000000 in
theorem done_any (R : Nat) (rest : List Int) (e : Int) (w : World) (h : St w R rest e) : Calls Try.prog 49 #[.pointer (some ⟨R, 0, none⟩)] w fun en w' => en = .returned (.int .i64 (doneE rest e)) ∧ w' = w := by
  have ce := err_made R e w h.1
  by_cases he : e = 0
  · subst he
    obtain ⟨a, cap, h0, _⟩ := h.2 rfl
    have cl := left_any R a rest.length cap w h0
    have E : doneE rest 0 = if rest.length = 0 then 0 else 12 := by simp [doneE]
    rw [E]
    clear E h
    by_cases hr : rest.length = 0
    · rw [if_pos hr]
      rw [hr] at cl
      clear hr h0
      go_enter Try.func49, Try.ntmps49
      go_wp2_with fail
      refine ce.mono ?_
      rintro e1 w1 ⟨rfl, hx⟩
      obtain rfl := hx.symm
      clear hx
      go_wp2_with fail
      refine cl.mono ?_
      rintro e2 w2 ⟨rfl, hx⟩
      obtain rfl := hx.symm
      clear hx
      go_wp2
      go_ret
      exact ⟨rfl, rfl⟩
    · rw [if_neg hr]
      have hr' : (0 : Int) < rest.length := by omega
      obtain ⟨n, hn⟩ : ∃ n : Int, (rest.length : Int) = n := ⟨_, rfl⟩
      rw [hn] at cl hr'
      clear hr hn h0
      go_enter Try.func49, Try.ntmps49
      go_wp2_with fail
      refine ce.mono ?_
      rintro e1 w1 ⟨rfl, hx⟩
      obtain rfl := hx.symm
      clear hx
      go_wp2_with fail
      refine cl.mono ?_
      rintro e2 w2 ⟨rfl, hx⟩
      obtain rfl := hx.symm
      clear hx
      go_wp2
      go_ret
      exact ⟨rfl, rfl⟩
  · have E : doneE rest e = e := by simp [doneE, he]
    rw [E]
    have n1 : (e != 0) = true := bne_iff_ne.2 he
    clear E h he
    go_enter Try.func49, Try.ntmps49
    go_wp2_with fail
    refine ce.mono ?_
    rintro e1 w1 ⟨rfl, hx⟩
    obtain rfl := hx.symm
    clear hx
    go_wp2
    go_ret
    exact ⟨rfl, rfl⟩
set_option maxRecDepth 100000 in
set_option maxHeartbeats 2000000 in
theorem fault_ok (Q R : Nat) (rest : List Int) (e : Int) (w : World) (h : St w R rest e) (hq : MrAt w Q R false) : Calls Try.prog 16 #[.pointer (some ⟨Q, 0, none⟩)] w fun en w' => en = .returned (.int .i64 (doneE rest e)) ∧ w' = w := by
  have cd := done_any R rest e w h
  have c0 := hq.c0
  have c1 := hq.c1
  generalize doneE rest e = r at *
  clear h hq
  go_enter Try.func16, Try.ntmps16
  go_wp2_with fail
  refine cd.mono ?_
  rintro e1 w1 ⟨rfl, hx⟩
  obtain rfl := hx.symm
  clear hx cd
  go_wp2
  go_ret
  exact ⟨rfl, rfl⟩
set_option maxRecDepth 100000 in
set_option maxHeartbeats 2000000 in
theorem kind_pos (Q R : Nat) (rest rest' : List Int) (n most : Int) (w : World) (h : St w R rest 0) (hq : MrAt w Q R false) (hn : numS rest 0 most = (n, rest', 0)) (h0 : n ≠ 0) :
    Calls Try.prog 37 #[.pointer (some ⟨Q, 0, none⟩), .int .i64 most] w fun en w' => en = .returned (.int .i64 n) ∧ St w' R rest' 0 ∧ w.grownBy w' (some R) := by
  have cn := num_any R rest 0 most w h
  rw [hn] at cn
  simp only at cn
  have c0 := hq.c0
  have n0 : (n == 0) = false := beq_eq_false_iff_ne.2 h0
  clear h hq hn h0
  go_enter Try.func37, Try.ntmps37
  go_wp2_with fail
  refine cn.mono ?_
  rintro e1 w1 ⟨rfl, hS1, hg1⟩
  clear cn c0
  go_wp2
  go_ret
  exact ⟨rfl, hS1, hg1⟩
theorem there_blk {w w' : World} {b o n : Nat} (h : w.there b o n) (hb : w'.heap[b]? = w.heap[b]?) : w'.there b o n := fun j hj => by
  have := h j hj
  exact ⟨by rw [(cell_block hb).1]; exact this.1, (cell_block hb).2.trans this.2⟩
theorem apartC {w : World} {q b o : Nat} {v : Value} {vs : List Value} (h : w.cell? ⟨q, 0, none⟩ = some v) (hne : q ≠ b) : (w.setCells b o vs).cell? ⟨q, 0, none⟩ = some v := by
  have : w.rangeAt q 0 [v] := fun j u hj => by
    match j, hj with
    | 0, hj => cases hj; exact h
  exact World.rangeAt_setCells_apart this b o vs (.inl hne) 0 v rfl
theorem St.belowN {w w' : World} {R n : Nat} {rest : List Int} {e : Int} (h : St w R rest e) (hb : Below n w w') (hn : R < n) : St w' R rest e := by
  refine ⟨h.1.below (hb.block R hn) hb.size, fun he => ?_⟩
  obtain ⟨a, cap, h0, hc, hm, hr, hne⟩ := h.2 he
  refine ⟨a, cap, (cell_block (hb.block R hn)).1.trans h0, hc, hm, ⟨hr.1, hr.2.1, ?_⟩, hne⟩
  rcases hr.2.2 with q | ⟨b, off, rfl, q1, q2⟩
  · exact .inl q
  · exact .inr ⟨b, off, rfl, Nat.lt_of_lt_of_le q1 hb.size, range_below q2 hb (by have := hne _ rfl; simp only at this; omega)⟩
theorem Off.below_off {w w' : World} {n : Nat} (h : Below n w w') : Off (fun b => n ≤ b) w w' := ⟨h.mono (Nat.zero_le _), fun b _ hf => h.block b (by omega)⟩
set_option maxRecDepth 100000 in
set_option maxHeartbeats 4000000 in
theorem rmsg6 (Q R : Nat) (zs z1 z2 z3 : List Int) (e sl : Int) (w : World) (h : St w R zs 0) (hq : MrAt w Q R false) (n1 : numS zs 0 8 = (6, z1, 0)) (n2 : numS z1 0 1048576 = (e, z2, 0)) (n3 : numS z2 0 1099511627776 = (sl, z3, 0)) :
    Calls Try.prog 15 #[.pointer (some ⟨Q, 0, none⟩)] w fun en w' => en = .returned (.agg (Ms.plain 6 e sl Vt.zero zeros32).cells.toArray) ∧ St w' R z3 0 ∧ MrAt w' Q R false ∧ Off (fun b => b = R) w w' := by
  have hm : (Ms.plain 6 e sl Vt.zero zeros32).ok := Ms.plain_ok 6 e sl Vt.zero_ok zeros32_len zeros32_byte
  have hk : (Ms.plain 6 0 0 Vt.zero zeros32).ok := Ms.plain_ok 6 0 0 Vt.zero_ok zeros32_len zeros32_byte
  have hz0 : Ms.zero.ok := Ms.plain_ok 0 0 0 Vt.zero_ok zeros32_len zeros32_byte
  have lm := hm.len
  have lk := hk.len
  have lz := hz0.len
  have om := all_oneCell_toArray hm.one
  have ok := all_oneCell_toArray hk.one
  have hz := zeroM
  have hbk := build_kind 6
  have hput : ∀ (w' : World) b, w'.rangeAt b 0 (Ms.plain 6 0 0 Vt.zero zeros32).cells → w'.there b 0 119 → ((w'.setCells b 1 [.int .i64 e]).setCells b 4 [.int .i64 sl]).rangeAt b 0 (Ms.plain 6 e sl Vt.zero zeros32).cells := fun w' b h ht => by
    have h1 := range_put (pre := [Value.int .i64 6]) (mid := [Value.int .i64 0]) (vs := [Value.int .i64 e]) h 1 rfl (by have := there_part ht 1 1 (by omega); rwa [Nat.zero_add] at this) rfl
    exact range_put (pre := [Value.int .i64 6, .int .i64 e, .int .i64 0, .int .i64 0]) (mid := [Value.int .i64 0]) (vs := [Value.int .i64 sl]) h1 4 rfl (by have := there_part (World.there_setCells ht b 1 [Value.int .i64 e]) 4 1 (by omega); rwa [Nat.zero_add] at this) rfl
  have hk0 : ∀ (w' : World) b, w'.rangeAt b 0 (Ms.plain 6 0 0 Vt.zero zeros32).cells → w'.cell? ⟨b, 0, none⟩ = some (.int .i64 6) := fun w' b h => (hk.at h).k
  have im : (Try.prog.info? 37).map (·.size) = some (Ms.plain 6 e sl Vt.zero zeros32).cells.length := by rw [lm]; exact iszM
  have im' : (Try.prog.info? 37).map (·.size) = some (Ms.plain 6 e sl Vt.zero zeros32).cells.toArray.size := by rw [List.size_toArray, lm]; exact iszM
  have ik' : (Try.prog.info? 37).map (·.size) = some (Ms.plain 6 0 0 Vt.zero zeros32).cells.toArray.size := by rw [List.size_toArray, lk]; exact iszM
  clear hm hk hz0
  generalize (Ms.plain 6 e sl Vt.zero zeros32).cells = q at *
  generalize (Ms.plain 6 0 0 Vt.zero zeros32).cells = qk at *
  generalize Ms.zero.cells = z at *
  have hRl := hq.ne
  have hQl := hq.lt
  have hB1 : Below w.heap.size w (w.alloc (.cells z.toArray 37)) := (Below.refl _ _).alloc (Nat.le_refl _) _
  have hT1 : (w.alloc (.cells z.toArray 37)).there w.heap.size 0 119 := by
    have := there_new w z.toArray 37
    rwa [show z.toArray.size = 119 by simpa using lz] at this
  have hs1 : w.heap.size < (w.alloc (.cells z.toArray 37)).heap.size := by simp
  have h1 := h.below hB1
  have hq1 := hq.below hB1
  have c4 := fun (w0 : World) (hS : St w0 R z1 0) => num_any R z1 0 1048576 w0 hS
  have c9 := fun (w0 : World) (hS : St w0 R z2 0) => num_any R z2 0 1099511627776 w0 hS
  simp only [n2, n3] at c4 c9
  go_enter Try.func15, Try.ntmps15
  go_upto_region 1 with fail
  go_name_world w1 hw1
  rw [show w.alloc (.cells z.toArray 37) = w1 from hw1] at hB1 hT1 hs1 h1 hq1
  clear hw1
  have ck := kind_pos Q R zs z1 6 8 w1 h1 hq1 n1 (by omega)
  clear n1 n2 n3 h hq h1
  go_wp2_with fail
  refine ck.mono ?_
  rintro e2 w2 ⟨rfl, hSt2, hg2⟩
  have hq2 := hq1.gb hg2
  have hT2 := there_blk hT1 (hg2.block _ hs1 (fun e => by cases e; omega))
  have hs2 : w.heap.size < w2.heap.size := Nat.lt_of_lt_of_le hs1 hg2.size
  have O2 : Off (fun b => b = R) w w2 := (Off.of_below (F := fun b => b = R) hB1).trans (Off.of_grown (F := fun b => b = R) hg2 (fun k hk => by cases hk; rfl)) (fun _ _ q => q)
  obtain ⟨r3, hB3, hs3, hT3⟩ := fresh_store w2 z.toArray 37 qk (by rw [List.size_toArray, lz, lk])
  rw [show z.toArray.size = 119 by simpa using lz] at hT3
  have hTz : (w2.alloc (.cells z.toArray 37)).there w2.heap.size 0 qk.toArray.size := by
    have := there_new w2 z.toArray 37
    rw [show z.toArray.size = 119 by simpa using lz] at this
    rw [show qk.toArray.size = 119 by simpa using lk]
    exact this
  clear ck hg2 hq1 hT1 hB1 hs1
  go_upto_region 2 with (first | (refine wpList_build rfl 37 [(0, .tmp 5)] rfl [(0, .int .i64 6)] _ rfl (hbk _) ?_) | refine wpList_store_mid rfl 37 _ _ rfl _ _ qk.toArray rfl rfl hTz ik' ok ?_)
  go_name_world w3 hw3
  rw [show (w2.alloc (.cells z.toArray 37)).setCells w2.heap.size 0 qk = w3 from hw3] at r3 hB3 hs3 hT3
  have hs3' : w2.heap.size < w3.heap.size := by omega
  clear hw3 hs3 hTz
  have hSt3 := hSt2.below hB3
  have hq3 := hq2.below hB3
  have hT13 := there_below hT2 hB3 hs2
  have O3 := O2.below_r hB3
  have c0 := hk0 _ _ r3
  clear hSt2 hq2 hT2 O2 hB3
  go_upto_region 16 with fail
  obtain ⟨w5, hw5⟩ : ∃ w5, w3.drew = w5 := ⟨_, rfl⟩
  have hBd : Below w3.heap.size w3 w5 := by rw [← hw5]; exact (Below.refl _ _).drew
  have hSt5 := hSt3.below hBd
  have hq5 := hq3.below hBd
  have r5 := range_below r3 hBd hs3'
  have hT5 := there_below hT3 hBd hs3'
  have hT15 := there_below hT13 hBd (by omega)
  have O5 := O3.below_r hBd
  have hs5 := Nat.lt_of_lt_of_le hs3' hBd.size
  refine hs_begin (S := (fun w' => w'.cell? ⟨Q, 0, none⟩ = some (.pointer (some ⟨R, 0, none⟩)))) 14 rfl (by kernel_rfl) ?_
  rw [hw5]
  clear hw5 hSt3 hq3 r3 hT3 hT13 O3 hBd hs3' c0
  have hS := hq5.c0
  refine hs_take (i := 0) (d := some 81) (v := ?_) rfl (by kernel_rfl) (by kernel_rfl) (by kernel_rfl) (by rfl) ?_ hS rfl ?_
  rotate_left
  · intro w' hw
    go_simp
    try with_reducible rfl
  simp only [Act.put, List.setIfInBounds_toArray, List.set_cons_zero, List.set_cons_succ]
  refine hs_take (i := 1) (d := some 82) (v := ?_) rfl (by kernel_rfl) (by kernel_rfl) (by kernel_rfl) (by rfl) ?_ hS rfl ?_
  rotate_left
  · intro w' hw
    go_simp
    try with_reducible rfl
  simp only [Act.put, List.setIfInBounds_toArray, List.set_cons_zero, List.set_cons_succ]
  refine hs_take (i := 2) (d := some 83) (v := ?_) rfl (by kernel_rfl) (by kernel_rfl) (by kernel_rfl) (by rfl) ?_ hS rfl ?_
  rotate_left
  · intro w' hw
    go_simp
    try with_reducible rfl
  simp only [Act.put, List.setIfInBounds_toArray, List.set_cons_zero, List.set_cons_succ]
  refine hs_take (i := 3) (d := some 84) (v := ?_) rfl (by kernel_rfl) (by kernel_rfl) (by kernel_rfl) (by rfl) ?_ hS rfl ?_
  rotate_left
  · intro w' hw
    have := hw
    go_simp
    try with_reducible rfl
  simp only [Act.put, List.setIfInBounds_toArray, List.set_cons_zero, List.set_cons_succ]
  refine hs_take (i := 5) (d := some 86) (v := ?_) rfl (by kernel_rfl) (by kernel_rfl) (by kernel_rfl) (by rfl) ?_ hS rfl ?_
  rotate_left
  · intro w' hw
    go_simp
    try with_reducible rfl
  simp only [Act.put, List.setIfInBounds_toArray, List.set_cons_zero, List.set_cons_succ]
  refine hs_take (i := 6) (d := some 87) (v := ?_) rfl (by kernel_rfl) (by kernel_rfl) (by kernel_rfl) (by rfl) ?_ hS rfl ?_
  rotate_left
  · intro w' hw
    go_simp
    try with_reducible rfl
  simp only [Act.put, List.setIfInBounds_toArray, List.set_cons_zero, List.set_cons_succ]
  refine hs_take (i := 7) (d := some 88) (v := ?_) rfl (by kernel_rfl) (by kernel_rfl) (by kernel_rfl) (by rfl) ?_ hS rfl ?_
  rotate_left
  · intro w' hw
    go_simp
    try with_reducible rfl
  simp only [Act.put, List.setIfInBounds_toArray, List.set_cons_zero, List.set_cons_succ]
  refine hs_take (i := 8) (d := some 89) (v := ?_) rfl (by kernel_rfl) (by kernel_rfl) (by kernel_rfl) (by rfl) ?_ hS rfl ?_
  rotate_left
  · intro w' hw
    have := hw
    go_simp
    try with_reducible rfl
  simp only [Act.put, List.setIfInBounds_toArray, List.set_cons_zero, List.set_cons_succ]
  refine hs_call (i := 4) (d := some 85) rfl (by kernel_rfl) (by rfl) (by go_simp; first | done | exact ⟨rfl, rfl⟩ | with_reducible rfl) rfl ?_
  refine (c4 _ hSt5).mono ?_
  rintro e' wn1 ⟨rfl, hSt6, hg6⟩
  have hS : (fun w' => w'.cell? ⟨Q, 0, none⟩ = some (.pointer (some ⟨R, 0, none⟩))) wn1 := (hq5.gb hg6).c0
  refine ⟨_, rfl, hS, ?_⟩
  simp only [Act.put, List.setIfInBounds_toArray, List.set_cons_zero, List.set_cons_succ]
  have hq6 := hq5.gb hg6
  refine hs_take (i := 10) (d := some 91) (v := ?_) rfl (by kernel_rfl) (by kernel_rfl) (by kernel_rfl) (by rfl) ?_ hS rfl ?_
  rotate_left
  · intro w' hw
    go_simp
    try with_reducible rfl
  simp only [Act.put, List.setIfInBounds_toArray, List.set_cons_zero, List.set_cons_succ]
  refine hs_call (i := 9) (d := some 90) rfl (by kernel_rfl) (by rfl) (by go_simp; first | done | exact ⟨rfl, rfl⟩ | with_reducible rfl) rfl ?_
  refine (c9 _ hSt6).mono ?_
  rintro e' wn2 ⟨rfl, hSt7, hg7⟩
  have hS : (fun w' => w'.cell? ⟨Q, 0, none⟩ = some (.pointer (some ⟨R, 0, none⟩))) wn2 := (hq6.gb hg7).c0
  refine ⟨_, rfl, hS, ?_⟩
  simp only [Act.put, List.setIfInBounds_toArray, List.set_cons_zero, List.set_cons_succ]
  have hq7 := hq6.gb hg7
  have G := (Off.of_grown (F := fun b => b = R) hg6 (fun k hk => by cases hk; rfl)).trans (Off.of_grown (F := fun b => b = R) hg7 (fun k hk => by cases hk; rfl)) (fun _ _ q => q)
  have r7 : wn2.rangeAt w2.heap.size 0 qk := range_at r5 (G.2 _ hs5 (fun e => by omega))
  have hT7 : wn2.there w2.heap.size 0 119 := there_blk hT5 (G.2 _ hs5 (fun e => by omega))
  have hT17 : wn2.there w.heap.size 0 119 := there_blk hT15 (G.2 _ (by omega) (fun e => by omega))
  have hsn : w2.heap.size < wn2.heap.size := Nat.lt_of_lt_of_le hs5 G.size
  refine hs_store (i := 11) (w' := wn2.setCells w2.heap.size 1 [.int .i64 e]) rfl (by kernel_rfl) (by rfl) (exec_storeC rfl rfl rfl (store_cell _ _ _ _ _ (by have := there_part hT7 1 1 (by omega); rwa [Nat.zero_add] at this) iszI rfl rfl)) rfl (apartC hS (by omega)) ?_
  have hS := apartC (o := 1) (vs := [Value.int .i64 e]) (b := w2.heap.size) hS (by omega)
  have hT8 : (wn2.setCells w2.heap.size 1 [.int .i64 e]).there w2.heap.size 0 119 := World.there_setCells hT7 _ _ _
  refine hs_take (i := 12) (d := some 92) (v := ?_) rfl (by kernel_rfl) (by kernel_rfl) (by kernel_rfl) (by rfl) ?_ hS rfl ?_
  rotate_left
  · intro w' hw
    go_simp
    try with_reducible rfl
  simp only [Act.put, List.setIfInBounds_toArray, List.set_cons_zero, List.set_cons_succ]
  refine hs_store (i := 13) (w' := (wn2.setCells w2.heap.size 1 [.int .i64 e]).setCells w2.heap.size 4 [.int .i64 sl]) rfl (by kernel_rfl) (by rfl) (exec_storeC rfl rfl rfl (store_cell _ _ _ _ _ (by have := there_part hT8 4 1 (by omega); rwa [Nat.zero_add] at this) iszI rfl rfl)) rfl (apartC hS (by omega)) ?_
  refine hs_done (by kernel_rfl) ?_
  have r8 := hput _ _ r7 hT7
  have B8 := below_sets (show w2.heap.size ≤ w2.heap.size from Nat.le_refl _) [.int .i64 sl] 4 _ (below_sets (show w2.heap.size ≤ w2.heap.size from Nat.le_refl _) [.int .i64 e] 1 _ (Below.refl w2.heap.size wn2))
  have hs8 : w2.heap.size < ((wn2.setCells w2.heap.size 1 [.int .i64 e]).setCells w2.heap.size 4 [.int .i64 sl]).heap.size := by rw [size_sets, size_sets]; exact hsn
  have hT18 : ((wn2.setCells w2.heap.size 1 [.int .i64 e]).setCells w2.heap.size 4 [.int .i64 sl]).there w.heap.size 0 119 := World.there_setCells (World.there_setCells hT17 _ _ _) _ _ _
  clear hT7 hT8 hT17 r7 hT5 hT15 r5
  go_upto_region 22 with fail
  go_name_world w8 hw8
  rw [show (wn2.setCells w2.heap.size 1 [.int .i64 e]).setCells w2.heap.size 4 [.int .i64 sl] = w8 from hw8] at r8 B8 hs8 hT18
  clear hw8 hS
  have hSt8 : St w8 R z3 0 := hSt7.belowN B8 (by omega)
  have hq8 : MrAt w8 Q R false := hq7.at (B8.block Q (by omega)) B8.size
  have O8 : Off (fun b => b = R) w w8 := (O5.trans G (fun _ _ q => q)).trans (Off.below_off B8) (fun b hb hf => absurd hf (by show ¬ w2.heap.size ≤ b; omega))
  have hT18' : w8.there w.heap.size 0 q.toArray.size := by rw [show q.toArray.size = 119 by simpa using lm]; exact hT18
  have r9 := World.rangeAt_setCells_same w8 w.heap.size 0 q (by have := hT18'; rwa [List.size_toArray] at this)
  have B9 := below_sets (show w.heap.size ≤ w.heap.size from Nat.le_refl _) q 0 _ (Below.refl w.heap.size w8)
  have hrs := run_loadVar_mid (P := Try.prog) _ w.heap.size 0 37 q _ r9 Try.underlying37 rfl im
  have hSt9 := hSt8.belowN B9 (by omega)
  have hq9 := hq8.at (B9.block Q (by omega)) B9.size
  have O9 : Off (fun b => b = R) w (w8.setCells w.heap.size 0 q) := O8.trans (Off.below_off B9) (fun b hb hf => absurd hf (by show ¬ w.heap.size ≤ b; omega))
  clear hSt7 hq7 G hg6 hg7 hSt6 hq6 hSt5 hq5 O5 O8 B8 B9 hSt8 hq8 c4 c9 hput hk0
  go_wp2_with (first | (refine wpList_load_mid rfl 37 _ rfl _ _ rfl q _ r8 Try.underlying37 rfl im ?_) | (refine wpList_store_mid rfl 37 _ _ rfl _ _ q.toArray rfl rfl hT18' im' om ?_))
  exact bodyPost_ret (v := .agg q.toArray) (by simp [results, Try.results15, asAddr, hrs]) rfl ⟨rfl, hSt9, hq9, O9⟩
end Go.Proofs.Ytahdmajppnffeaa
namespace Go.Proofs.Ytahdmajppnffeaa
open Go.RowKit
open Sha Tal
theorem strOf_strL (s : ByteArray) : strOf (strL s) = s := by
  unfold strOf strL
  rw [foldl_push_byteCells]
  cases s; simp
namespace Tal
theorem head_digs (n : Nat) (h0 : 0 < n) (h : n < 2 ^ 63) : (digs n).head? ≠ some 0 := by
  obtain ⟨_, b, c⟩ := wid_bounds 8 n h (by omega)
  obtain ⟨c1, c2⟩ := c h0
  have hg := digK_get (wid n) n 0 c1
  have hl := digs_length n
  unfold digs at hl ⊢
  cases hd : digK (wid n) n with
  | nil => simp
  | cons x tl =>
    rw [hd] at hg
    have hg' : x = ((n / 256 ^ (wid n - 1 - 0) % 256 : Nat) : Int) := hg
    rw [Nat.sub_zero] at hg'
    have hlt : n / 256 ^ (wid n - 1) < 256 := by
      rw [Nat.div_lt_iff_lt_mul (Nat.pow_pos (by omega)), Nat.mul_comm, ← Nat.pow_succ]
      have e : (wid n - 1).succ = wid n := by omega
      rw [e]; exact b
    have hpos : 0 < n / 256 ^ (wid n - 1) := Nat.div_pos c2 (Nat.pow_pos (by omega))
    rw [Nat.mod_eq_of_lt hlt] at hg'
    intro hc
    simp only [List.head?_cons, Option.some.injEq] at hc
    omega
theorem numR_back (n : Nat) (h : n < 2 ^ 63) (more : List Int) : numR (numB n ++ more) = ((n : Int), 1 + wid n, 0) := by
  have hw := wid_le n h
  have hv := val_digs n h
  have ht : (digs n ++ more).take (wid n) = digs n := by rw [List.take_append_of_le_length (by rw [digs_length]; exact Nat.le_refl _), List.take_of_length_le (by rw [digs_length]; exact Nat.le_refl _)]
  have hh : ¬ ((digs n).head? = some 0 ∨ 9223372036854775807 < val (digs n)) := by
    rw [hv]
    by_cases h0 : n = 0
    · subst h0; rw [digs_zero]; simp
    · intro hc
      rcases hc with hc | hc
      · exact head_digs n (by omega) h hc
      · omega
  have e : valR (digs n) = ((n : Int), 0) := by unfold valR; rw [if_neg hh, hv]
  have e0 : numB n ++ more = (wid n : Int) :: (digs n ++ more) := rfl
  rw [e0]
  simp only [numR]
  rw [if_neg (by omega), if_neg (by rw [List.length_append, digs_length]; omega), Int.toNat_natCast, ht, e]
  simp
theorem numS_back (x most : Int) (h0 : 0 ≤ x) (h1 : x ≤ 9223372036854775807) (hm : x ≤ most) (more : List Int) : numS (putL x ++ more) 0 most = (x, more, 0) := by
  have e : putL x = numB x.toNat := by unfold putL; rw [if_neg (by omega)]
  have hr := numR_back x.toNat (by omega) more
  have hx : ((x.toNat : Nat) : Int) = x := by omega
  rw [hx] at hr
  have hd : (numB x.toNat ++ more).drop (1 + wid x.toNat) = more := by
    have : (numB x.toNat).length = 1 + wid x.toNat := by simp only [numB, List.length_cons, digs_length]; omega
    rw [← this, List.drop_append_of_le_length (Nat.le_refl _)]; simp
  unfold numS
  rw [e, hr, if_pos rfl, if_pos rfl, if_neg (by omega), hd]
end Tal
theorem textS_back (s : ByteArray) (most : Int) (hs : s.size ≤ 1099511627) (hm : (s.size : Int) ≤ most) (more : List Int) : textS (textL s ++ more) 0 most = (strL s, more, 0) := by
  have e : textL s ++ more = putL (s.size : Int) ++ (strL s ++ more) := by unfold textL; rw [List.append_assoc]
  have hn := numS_back (s.size : Int) 9223372036854775807 (by omega) (by omega) (by omega) (strL s ++ more)
  unfold textS
  rw [e, hn]
  simp only [Int.toNat_natCast]
  rw [if_pos trivial, if_neg (by omega), if_neg (by rw [List.length_append, strL_length]; omega)]
  have hl := strL_length s
  rw [List.take_append_of_le_length (by omega), List.take_of_length_le (by omega), List.drop_append_of_le_length (by omega), List.drop_of_length_le (by omega), List.nil_append]

theorem strOf_list (zs : List Int) : (strOf zs).toList = zs.map (fun n => UInt8.ofNat n.toNat) := by
  have key : ∀ (zs : List Int) (r : ByteArray), (zs.foldl (fun r n => r.push (UInt8.ofNat n.toNat)) r).data.toList = r.data.toList ++ zs.map (fun n => UInt8.ofNat n.toNat) := by
    intro zs
    induction zs with
    | nil => intro r; simp
    | cons z zs ih => intro r; rw [List.foldl_cons, ih]; simp [ByteArray.push]
  rw [ByteArray.toList_eq]
  unfold strOf
  rw [key]
  rfl
theorem strOf_inj : ∀ {xs ys : List Int}, (∀ z ∈ xs, 0 ≤ z ∧ z < 256) → (∀ z ∈ ys, 0 ≤ z ∧ z < 256) → (strOf xs).toList = (strOf ys).toList → xs = ys := by
  intro xs ys hx hy h
  rw [strOf_list, strOf_list] at h
  have hl : xs.length = ys.length := by simpa using congrArg List.length h
  apply List.ext_getElem hl
  intro i h1 h2
  have := congrArg (·[i]?) h
  simp only [List.getElem?_map, List.getElem?_eq_getElem h1, List.getElem?_eq_getElem h2, Option.map_some, Option.some.injEq] at this
  have a1 := hx _ (List.getElem_mem h1)
  have a2 := hy _ (List.getElem_mem h2)
  have := congrArg UInt8.toNat this
  simp only [UInt8.toNat_ofNat'] at this
  omega
theorem inB_iff {n m : Int} : inB n m = true ↔ 0 ≤ n ∧ n ≤ m := by unfold inB; exact decide_eq_true_iff
end Go.Proofs.Ytahdmajppnffeaa
namespace Go.Proofs.Ytahdmajppnffeaa
open Go.RowKit
open Sha Tal
theorem results_ct {fn : Func} {p u : Tmp} {ty : TypeId} (h : fn.results = #[.cell p ty, .tmp u]) (tmps : Array Value) (P : Program) (w : World) {a : Addr} {v : Value} (ha : tmps.getD p undef = .pointer (some a)) (hv : (loadVar ty a).run P w = .ok v w) : (results fn tmps).run P w = .ok (.tuple #[v, tmps.getD u undef]) w := by
  rw [results_cell_tmp h, ha]
  simp [asAddr, hv, Result.andThen]
set_option maxRecDepth 100000 in
set_option maxHeartbeats 4000000 in
theorem dec6 (s : ByteArray) (z1 z2 : List Int) (e sl : Int) (w : World) (hs : s.size ≤ 4194304) (n1 : numS (strL s) 0 8 = (6, z1, 0)) (n2 : numS z1 0 1048576 = (e, z2, 0)) (n3 : numS z2 0 1099511627776 = (sl, [], 0)) :
    Calls Try.prog 8 #[.string s] w fun er w' => er = .returned (.tuple #[.agg (Ms.plain 6 e sl Vt.zero zeros32).cells.toArray, .int .i64 0]) ∧ Below w.heap.size w w' := by
  have hm : (Ms.plain 6 e sl Vt.zero zeros32).ok := Ms.plain_ok 6 e sl Vt.zero_ok zeros32_len zeros32_byte
  have hz0 : Ms.zero.ok := Ms.plain_ok 0 0 0 Vt.zero_ok zeros32_len zeros32_byte
  have lm := hm.len
  have lz := hz0.len
  have om := all_oneCell_toArray hm.one
  have hz := zeroM
  have im : (Try.prog.info? 37).map (·.size) = some (Ms.plain 6 e sl Vt.zero zeros32).cells.length := by rw [lm]; exact iszM
  have im' : (Try.prog.info? 37).map (·.size) = some (Ms.plain 6 e sl Vt.zero zeros32).cells.toArray.size := by rw [List.size_toArray, lm]; exact iszM
  have cr := fun Q R (w0 : World) (h : St w0 R (strL s) 0) (hq : MrAt w0 Q R false) => rmsg6 Q R (strL s) z1 z2 [] e sl w0 h hq n1 n2 n3
  have cn := fun w0 => newReader_any s (by omega) w0
  have hd0 : doneE [] 0 = 0 := rfl
  have hs' : (s.size : Int) ≤ 4194304 := by omega
  clear hm hz0 n1 n2 n3
  generalize (Ms.plain 6 e sl Vt.zero zeros32).cells = q at *
  generalize Ms.zero.cells = z at *
  generalize strL s = zs at *
  have hB1 : Below w.heap.size w (w.alloc (.cells z.toArray 37)) := (Below.refl _ _).alloc (Nat.le_refl _) _
  have hT1 : (w.alloc (.cells z.toArray 37)).there w.heap.size 0 119 := by
    have := there_new w z.toArray 37
    rwa [show z.toArray.size = 119 by simpa using lz] at this
  have hs1 : w.heap.size < (w.alloc (.cells z.toArray 37)).heap.size := by simp
  go_enter Try.func8, Try.ntmps8
  go_upto_region 1 with fail
  go_name_world w1 hw1
  rw [show w.alloc (.cells z.toArray 37) = w1 from hw1] at hB1 hT1 hs1
  clear hw1
  go_wp2_with fail
  refine (cn _).mono ?_
  rintro e2 w2 ⟨Q, R, rfl, hRw, hSt2, hq2, hb2⟩
  have hB2 := hB1.trans (hb2.mono hB1.size)
  have hT2 := there_below hT1 hb2 hs1
  have hs2 := Nat.lt_of_lt_of_le hs1 hb2.size
  have c4 := cr Q R w2 hSt2 hq2
  have hRQ := hq2.ne
  have hQl := hq2.lt
  clear cn cr hb2 hT1 hB1 hSt2 hq2
  go_wp2_with fail
  refine c4.mono ?_
  rintro e3 w3 ⟨rfl, hSt3, hq3, hO3⟩
  have hB3 := hB2.trans (hO3.below (n := w.heap.size) (by omega) (fun b hb hf => by omega))
  have hT3 := there_blk hT2 (hO3.2 _ hs2 (fun hf => by omega))
  have hs3 := Nat.lt_of_lt_of_le hs2 hO3.size
  obtain ⟨r4, hb4, hz4, _⟩ := fresh_store w3 z.toArray 37 q (by rw [List.size_toArray, lz, lm])
  have hTz : (w3.alloc (.cells z.toArray 37)).there w3.heap.size 0 q.toArray.size := by
    have := there_new w3 z.toArray 37
    rw [show z.toArray.size = 119 by simpa using lz] at this
    rw [show q.toArray.size = 119 by simpa using lm]
    exact this
  clear c4 hO3 hT2 hB2
  go_upto_region 5 with (refine wpList_store_mid rfl 37 _ _ rfl _ _ q.toArray rfl rfl hTz im' om ?_)
  go_name_world w4 hw4
  rw [show (w3.alloc (.cells z.toArray 37)).setCells w3.heap.size 0 q = w4 from hw4] at r4 hb4 hz4
  clear hw4 hTz
  have hSt4 := hSt3.below hb4
  have hq4 := hq3.below hb4
  have hT4 := there_below hT3 hb4 hs3
  have hB4 := hB3.trans (hb4.mono hB3.size)
  have cf := fault_ok Q R [] 0 w4 hSt4 hq4
  rw [hd0] at cf
  clear hSt3 hq3 hT3 hb4 hB3 hSt4 hq4 hd0 hz4
  go_wp2_with fail
  refine cf.mono ?_
  rintro e5 w5 ⟨rfl, hx⟩
  obtain rfl := hx.symm
  clear hx cf
  have hT4' : w4.there w.heap.size 0 q.toArray.size := by rw [show q.toArray.size = 119 by simpa using lm]; exact hT4
  have r9 := World.rangeAt_setCells_same w4 w.heap.size 0 q (by have := hT4'; rwa [List.size_toArray] at this)
  have B9 := below_sets (Nat.le_refl w.heap.size) q 0 _ hB4
  have hrs := run_loadVar_mid (P := Try.prog) _ w.heap.size 0 37 q _ r9 Try.underlying37 rfl im
  go_wp2_with (first | (refine wpList_load_mid rfl 37 _ rfl _ _ rfl q _ r4 Try.underlying37 rfl im ?_) | (refine wpList_store_mid rfl 37 _ _ rfl _ _ q.toArray rfl rfl hT4' im' om ?_))
  try simp only [Act.put]
  exact bodyPost_ret (results_ct rfl _ _ _ rfl hrs) rfl ⟨rfl, B9⟩
theorem stat_str : strOf (statL 2 9) = ⟨#[1, 6, 1, 2, 1, 9]⟩ := by decide +kernel
theorem stat1 : numS (strL ⟨#[1, 6, 1, 2, 1, 9]⟩) 0 8 = (6, [1, 2, 1, 9], 0) := by decide +kernel
theorem stat2 : numS [1, 2, 1, 9] 0 1048576 = (2, [1, 9], 0) := by decide +kernel
theorem stat3 : numS [1, 9] 0 1099511627776 = (9, [], 0) := by decide +kernel
set_option maxRecDepth 100000 in
set_option maxHeartbeats 4000000 in
theorem lives13_any (w : World) : Calls Try.prog 6 #[] w fun er w' => er = .returned (.bool true) ∧ Below w.heap.size w w' := by
  have hm : (Ms.plain 6 2 9 Vt.zero zeros32).ok := Ms.plain_ok 6 2 9 Vt.zero_ok zeros32_len zeros32_byte
  have hz0 : Ms.zero.ok := Ms.plain_ok 0 0 0 Vt.zero_ok zeros32_len zeros32_byte
  have lm := hm.len
  have lz := hz0.len
  have om := all_oneCell_toArray hm.one
  have hz := zeroM
  have im' : (Try.prog.info? 37).map (·.size) = some (Ms.plain 6 2 9 Vt.zero zeros32).cells.toArray.size := by rw [List.size_toArray, lm]; exact iszM
  have hb := build_state 6 2 9
  have ce := fun w0 => enc6 w0
  have cd := fun w0 => dec6 ⟨#[1, 6, 1, 2, 1, 9]⟩ [1, 2, 1, 9] [1, 9] 2 9 w0 (by decide) stat1 stat2 stat3
  have hen : encV true (statL 2 9) = .tuple #[.string ⟨#[1, 6, 1, 2, 1, 9]⟩, .int .i64 0] := by unfold encV; rw [if_pos rfl, stat_str]
  rw [hen] at ce
  have hk4 : ∀ (w' : World) b, w'.rangeAt b 0 (Ms.plain 6 2 9 Vt.zero zeros32).cells → w'.cell? ⟨b, 4, none⟩ = some (.int .i64 9) := fun w' b h => (hm.at h).s
  clear hm hz0 hen
  generalize (Ms.plain 6 2 9 Vt.zero zeros32).cells = q at *
  generalize Ms.zero.cells = z at *
  go_enter Try.func6, Try.ntmps6
  go_wp2_with (refine wpList_build rfl 37 [(0, .const (.int .i64 6)), (1, .const (.int .i64 2)), (4, .const (.int .i64 9))] rfl [(0, .int .i64 6), (1, .int .i64 2), (4, .int .i64 9)] _ rfl (hb _) ?_)
  refine (ce _).mono ?_
  rintro e1 w1 ⟨rfl, hB1⟩
  clear ce hb
  go_wp2_with fail
  refine (cd _).mono ?_
  rintro e2 w2 ⟨rfl, hb2⟩
  have hB2 := hB1.trans (hb2.mono hB1.size)
  clear cd hb2 hB1
  obtain ⟨r4, hb4, hz4, _⟩ := fresh_store w2 z.toArray 37 q (by rw [List.size_toArray, lz, lm])
  have hTz : (w2.alloc (.cells z.toArray 37)).there w2.heap.size 0 q.toArray.size := by
    have := there_new w2 z.toArray 37
    rw [show z.toArray.size = 119 by simpa using lz] at this
    rw [show q.toArray.size = 119 by simpa using lm]
    exact this
  go_upto_region 3 with (refine wpList_store_mid rfl 37 _ _ rfl _ _ q.toArray rfl rfl hTz im' om ?_)
  go_name_world w4 hw4
  rw [show (w2.alloc (.cells z.toArray 37)).setCells w2.heap.size 0 q = w4 from hw4] at r4 hb4 hz4
  have c4 := hk4 _ _ r4
  have hB4 := hB2.trans (hb4.mono hB2.size)
  clear hw4 hTz r4 hb4 hz4 hB2
  go_wp2
  go_ret
  exact ⟨rfl, hB4⟩
end Go.Proofs.Ytahdmajppnffeaa
namespace Go.Proofs.Ytahdmajppnffeaa
open Go.RowKit
open Sha Tal
/-- a slice whose elements' cells are f's -/
def RowOf {α : Type} (f : α → List Value) (w : World) (a : Option Addr) (ys : List α) : Prop := ys = [] ∨ ∃ b off, a = some ⟨b, off, none⟩ ∧ b < w.heap.size ∧ w.rangeAt b off (ys.flatMap f)
theorem RowOf.below {α : Type} {f : α → List Value} {w w' : World} {a : Option Addr} {ys : List α} (h : RowOf f w a ys) (hb : Below w.heap.size w w') : RowOf f w' a ys := by
  rcases h with h | ⟨b, off, rfl, h1, h2⟩
  · exact .inl h
  · exact .inr ⟨b, off, rfl, Nat.lt_of_lt_of_le h1 hb.size, range_below h2 hb h1⟩
theorem flat_len_k {α : Type} {f : α → List Value} {k : Nat} {ys : List α} (h : ∀ y ∈ ys, (f y).length = k) : (ys.flatMap f).length = ys.length * k := by
  induction ys with
  | nil => simp
  | cons y ys ih =>
    have h1 := h y (by simp)
    have h2 := ih (fun x hx => h x (by simp [hx]))
    simp only [List.flatMap_cons, List.length_append, List.length_cons, Nat.add_mul, Nat.one_mul]
    omega
theorem RowOf.elem {α : Type} {f : α → List Value} {k : Nat} {w : World} {a : Option Addr} {ys : List α} (h : RowOf f w a ys) (hk : ∀ y ∈ ys, (f y).length = k) (i : Nat) (hi : i < ys.length) : ∃ b off, a = some ⟨b, off, none⟩ ∧ b < w.heap.size ∧ w.rangeAt b (off + i * k) (f ys[i]) := by
  rcases h with h0 | ⟨b, off, rfl, h1, h2⟩
  · subst h0; simp at hi
  · refine ⟨b, off, rfl, h1, ?_⟩
    have e : ys.take i ++ (ys[i] :: ys.drop (i + 1)) = ys := by rw [← List.drop_eq_getElem_cons hi, List.take_append_drop]
    have e2 : ys.flatMap f = (ys.take i).flatMap f ++ f ys[i] ++ (ys.drop (i + 1)).flatMap f := by
      have := congrArg (List.flatMap f) e
      rw [← this]
      simp only [List.flatMap_append, List.flatMap_cons, List.append_assoc]
    rw [e2] at h2
    have h3 := range_part h2
    rwa [flat_len_k (fun y hy => hk y (List.mem_of_mem_take hy)), List.length_take, Nat.min_eq_left (by omega)] at h3
/-- what a list has -/
structure El (α : Type) where
  f : α → List Value
  k : Nat
  ok : α → Prop
  len : ∀ y, ok y → (f y).length = k
  one : ∀ y, ∀ v ∈ f y, v.oneCell' = true
def RowsAt {α : Type} (E : El α) (w : World) (a : Option Addr) (ys : List α) : Prop := ys.length ≤ maxLen ∧ (∀ y ∈ ys, E.ok y) ∧ RowOf E.f w a ys
theorem RowsAt.below {α : Type} {E : El α} {w w' : World} {a : Option Addr} {ys : List α} (h : RowsAt E w a ys) (hb : Below w.heap.size w w') : RowsAt E w' a ys := ⟨h.1, h.2.1, h.2.2.below hb⟩
theorem RowsAt.elem {α : Type} {E : El α} {w : World} {a : Option Addr} {ys : List α} (h : RowsAt E w a ys) (i : Nat) (hi : i < ys.length) : ∃ b off, a = some ⟨b, off, none⟩ ∧ b < w.heap.size ∧ w.rangeAt b (off + i * E.k) (E.f ys[i]) := h.2.2.elem (fun y hy => E.len y (h.2.1 y hy)) i hi
theorem RowsAt.none {α : Type} {E : El α} {w : World} {a : Option Addr} : RowsAt E w a [] := ⟨by simp, by simp, .inl rfl⟩
theorem RowsAt.drew {α : Type} {E : El α} {w : World} {a : Option Addr} {ys : List α} (h : RowsAt E w a ys) : RowsAt E w.drew a ys := h.below ((Below.refl _ _).drew)
/-- signs -/
structure Sg where
  n : Int
  t : List Int
deriving Inhabited
structure Sg.ok (r : Sg) : Prop where
  tl : r.t.length = 16
  tb : ∀ z ∈ r.t, 0 ≤ z ∧ z < 256
  nl : -9223372036854775808 ≤ r.n
  nh : r.n ≤ 9223372036854775807
def Sg.cells (r : Sg) : List Value := .int .i64 r.n :: v8 r.t
def SgE : El Sg where
  f := Sg.cells
  k := 17
  ok := Sg.ok
  len := fun r h => by have := h.tl; simp [Sg.cells, v8]; omega
  one := fun r v hv => by
    rcases List.mem_cons.1 hv with rfl | hv
    · rfl
    · exact v8_one r.t v hv
/-- envelopes -/
structure Ev where
  n : Int
  s : ByteArray
  t : List Int
deriving Inhabited
structure Ev.ok (r : Ev) : Prop where
  tl : r.t.length = 16
  tb : ∀ z ∈ r.t, 0 ≤ z ∧ z < 256
  sl : r.s.size ≤ maxLen
  nl : -9223372036854775808 ≤ r.n
  nh : r.n ≤ 9223372036854775807
def Ev.cells (r : Ev) : List Value := .int .i64 r.n :: .string r.s :: v8 r.t
def EvE : El Ev where
  f := Ev.cells
  k := 18
  ok := Ev.ok
  len := fun r h => by have := h.tl; simp [Ev.cells, v8]; omega
  one := fun r v hv => by
    simp only [Ev.cells, List.mem_cons] at hv
    rcases hv with rfl | rfl | hv
    · rfl
    · rfl
    · exact v8_one r.t v hv
/-- requests -/
structure Rq where
  c : Int
  n : Int
  s : ByteArray
  t : List Int
deriving Inhabited
structure Rq.ok (r : Rq) : Prop where
  tl : r.t.length = 16
  tb : ∀ z ∈ r.t, 0 ≤ z ∧ z < 256
  sl : r.s.size ≤ maxLen
  cl : -9223372036854775808 ≤ r.c
  ch : r.c ≤ 9223372036854775807
  nl : -9223372036854775808 ≤ r.n
  nh : r.n ≤ 9223372036854775807
def Rq.cells (r : Rq) : List Value := .int .i64 r.c :: .int .i64 r.n :: .string r.s :: v8 r.t
def RqE : El Rq where
  f := Rq.cells
  k := 19
  ok := Rq.ok
  len := fun r h => by have := h.tl; simp [Rq.cells, v8]; omega
  one := fun r v hv => by
    simp only [Rq.cells, List.mem_cons] at hv
    rcases hv with rfl | rfl | rfl | hv
    · rfl
    · rfl
    · rfl
    · exact v8_one r.t v hv
theorem toList_iff {a b : ByteArray} : a.toList = b.toList ↔ a = b := by
  constructor
  · intro h
    rw [ByteArray.toList_eq, ByteArray.toList_eq] at h
    exact ByteArray.ext (Array.toList_inj.1 h)
  · intro h; rw [h]
theorem iszT : (Try.prog.info? 53).map (·.size) = some 16 := by kernel_rfl
theorem part_strV (w : World) (q : List Value) (i : Nat) (c : ByteArray) (h : q[i]? = some (.string c)) : (part 9 q.toArray i).run Try.prog w = .ok (.string c) w := by
  simp [part, isAgg, run_underlying Try.underlying9, h]
theorem part_tagV (w : World) (q : List Value) (i : Nat) (t : List Int) (h : List.take 16 (List.drop i q) = v8 t) : (part 53 q.toArray i).run Try.prog w = .ok (.agg (v8 t).toArray) w := by
  simp [part, isAgg, run_underlying Try.underlying53, run_size iszT, h]
theorem fldSg : (Try.prog.fieldsOf 86).toList.map (fun f => (f.name, f.type, f.offset)) = [("Node", 3, 0), ("Tag", 53, 1)] := by kernel_rfl
theorem undSg : Try.prog.underlying 86 = some (.struct (Try.prog.fieldsOf 86)) := by kernel_rfl
theorem sihSg : Try.prog.stoodInHeld 86 = false := by kernel_rfl
def Sg.B (x y : Sg) : Bool := (x.n == y.n) && ((x.t == y.t))
theorem Sg.B_iff {x y : Sg} : Sg.B x y = true ↔ x = y := by
  cases x
  cases y
  simp [Sg.B]
theorem Sg.eqIn (x y : Sg) (hx : x.t.length = 16) (hy : y.t.length = 16) (d : Nat) (w : World) :
    (Op.equalIn (d + 2 + 1) 86 (.agg x.cells.toArray) (.agg y.cells.toArray)).run Try.prog w = .ok (Sg.B x y) w := by
  rw [run_equalIn_struct w (d + 2) 86 _ _ undSg sihSg]
  have hf := fldSg
  generalize (Try.prog.fieldsOf 86).toList = fs at hf
  obtain ⟨f0, f1, rfl⟩ : ∃ f0 f1, fs = [f0, f1] := by
    rcases fs with _ | ⟨f0, _ | ⟨f1, _ | ⟨f2, fs⟩⟩⟩ <;> simp at hf
    exact ⟨f0, f1, rfl⟩
  simp only [List.map_cons, List.map_nil, List.cons.injEq, Prod.mk.injEq, and_true] at hf
  obtain ⟨⟨a0, b0, d0⟩, ⟨a1, b1, d1⟩⟩ := hf
  have p0 := part_intV w x.cells 0 x.n rfl
  have q0 := part_intV w y.cells 0 y.n rfl
  have p1 := part_tagV w x.cells 1 x.t (by show List.take 16 (v8 x.t) = v8 x.t; rw [List.take_of_length_le (by rw [v8_length, hx]; exact Nat.le_refl _)])
  have q1 := part_tagV w y.cells 1 y.t (by show List.take 16 (v8 y.t) = v8 y.t; rw [List.take_of_length_le (by rw [v8_length, hy]; exact Nat.le_refl _)])
  have eI := fun a b => run_equalIn_int (P := Try.prog) w (d + 1) 3 .i64 .i64 a b Try.underlying3
  have eT := run_equal8 (P := Try.prog) w d 53 5 16 Try.underlying53 Try.underlying5 isz8 x.t y.t hx hy
  unfold Sg.B
  generalize x.cells.toArray = q at *
  generalize y.cells.toArray = q' at *
  obtain ⟨T, hT⟩ : ∃ T, (v8 x.t).toArray = T := ⟨_, rfl⟩
  obtain ⟨T', hT'⟩ : ∃ T, (v8 y.t).toArray = T := ⟨_, rfl⟩
  rw [hT] at p1 eT
  rw [hT'] at q1 eT
  clear hT hT'
  obtain ⟨D, hD⟩ : ∃ D, d + 1 + 1 = D := ⟨_, rfl⟩
  have eT : (Op.equalIn (d + 1 + 1) 53 (.agg T) (.agg T')).run Try.prog w = .ok (x.t == y.t) w := eT
  rw [hD] at eT
  have n0 : ¬ ("Node" = "_") := by decide
  have n1 : ¬ ("Tag" = "_") := by decide
  simp only [Op.eqFields, a0, b0, d0, a1, b1, d1, ne_eq, n0, n1, not_false_eq_true, if_true]
  rw [show d + 2 = d + 1 + 1 from rfl, hD]
  rw [hD] at eI
  clear hD
  simp only [Sem.run_bind, p0, q0, Result.andThen_ok, eI]
  cases (x.n == y.n)
  · simp only [Bool.not_false, if_true, Sem.run_pure, Bool.false_and]
  · simp only [Bool.not_true, Bool.false_eq_true, if_false, Sem.run_bind, p1, q1, Result.andThen_ok, eT, Bool.true_and]
    cases (x.t == y.t)
    · simp only [Bool.not_false, if_true, Sem.run_pure]
    · simp only [Bool.not_true, Bool.false_eq_true, if_false, Sem.run_pure]
theorem Sg.eq10 (x y : Sg) (hx : x.ok) (hy : y.ok) (w : World) : (Op.equalIn 10000 86 (.agg x.cells.toArray) (.agg y.cells.toArray)).run Try.prog w = .ok (Sg.B x y) w := Sg.eqIn x y hx.tl hy.tl 9997 w
end Go.Proofs.Ytahdmajppnffeaa
namespace Go.Proofs.Ytahdmajppnffeaa
open Go.RowKit
open Sha Tal
theorem fldEv : (Try.prog.fieldsOf 55).toList.map (fun f => (f.name, f.type, f.offset)) = [("From", 3, 0), ("Body", 9, 1), ("Tag", 53, 2)] := by kernel_rfl
theorem undEv : Try.prog.underlying 55 = some (.struct (Try.prog.fieldsOf 55)) := by kernel_rfl
theorem sihEv : Try.prog.stoodInHeld 55 = false := by kernel_rfl
def Ev.B (x y : Ev) : Bool := (x.n == y.n) && ((x.s.toList == y.s.toList) && ((x.t == y.t)))
theorem Ev.B_iff {x y : Ev} : Ev.B x y = true ↔ x = y := by
  cases x
  cases y
  simp [Ev.B, toList_iff]
theorem Ev.eqIn (x y : Ev) (hx : x.t.length = 16) (hy : y.t.length = 16) (d : Nat) (w : World) :
    (Op.equalIn (d + 2 + 1) 55 (.agg x.cells.toArray) (.agg y.cells.toArray)).run Try.prog w = .ok (Ev.B x y) w := by
  rw [run_equalIn_struct w (d + 2) 55 _ _ undEv sihEv]
  have hf := fldEv
  generalize (Try.prog.fieldsOf 55).toList = fs at hf
  obtain ⟨f0, f1, f2, rfl⟩ : ∃ f0 f1 f2, fs = [f0, f1, f2] := by
    rcases fs with _ | ⟨f0, _ | ⟨f1, _ | ⟨f2, _ | ⟨f3, fs⟩⟩⟩⟩ <;> simp at hf
    exact ⟨f0, f1, f2, rfl⟩
  simp only [List.map_cons, List.map_nil, List.cons.injEq, Prod.mk.injEq, and_true] at hf
  obtain ⟨⟨a0, b0, d0⟩, ⟨a1, b1, d1⟩, ⟨a2, b2, d2⟩⟩ := hf
  have p0 := part_intV w x.cells 0 x.n rfl
  have q0 := part_intV w y.cells 0 y.n rfl
  have p1 := part_strV w x.cells 1 x.s rfl
  have q1 := part_strV w y.cells 1 y.s rfl
  have p2 := part_tagV w x.cells 2 x.t (by show List.take 16 (v8 x.t) = v8 x.t; rw [List.take_of_length_le (by rw [v8_length, hx]; exact Nat.le_refl _)])
  have q2 := part_tagV w y.cells 2 y.t (by show List.take 16 (v8 y.t) = v8 y.t; rw [List.take_of_length_le (by rw [v8_length, hy]; exact Nat.le_refl _)])
  have eI := fun a b => run_equalIn_int (P := Try.prog) w (d + 1) 3 .i64 .i64 a b Try.underlying3
  have eS := fun a b => run_equalIn_string (P := Try.prog) w (d + 1) 9 a b Try.underlying9
  have eT := run_equal8 (P := Try.prog) w d 53 5 16 Try.underlying53 Try.underlying5 isz8 x.t y.t hx hy
  unfold Ev.B
  generalize x.cells.toArray = q at *
  generalize y.cells.toArray = q' at *
  obtain ⟨T, hT⟩ : ∃ T, (v8 x.t).toArray = T := ⟨_, rfl⟩
  obtain ⟨T', hT'⟩ : ∃ T, (v8 y.t).toArray = T := ⟨_, rfl⟩
  rw [hT] at p2 eT
  rw [hT'] at q2 eT
  clear hT hT'
  obtain ⟨D, hD⟩ : ∃ D, d + 1 + 1 = D := ⟨_, rfl⟩
  have eT : (Op.equalIn (d + 1 + 1) 53 (.agg T) (.agg T')).run Try.prog w = .ok (x.t == y.t) w := eT
  rw [hD] at eT
  have n0 : ¬ ("From" = "_") := by decide
  have n1 : ¬ ("Body" = "_") := by decide
  have n2 : ¬ ("Tag" = "_") := by decide
  simp only [Op.eqFields, a0, b0, d0, a1, b1, d1, a2, b2, d2, ne_eq, n0, n1, n2, not_false_eq_true, if_true]
  rw [show d + 2 = d + 1 + 1 from rfl, hD]
  rw [hD] at eI
  simp only [hD] at eS
  clear hD
  simp only [Sem.run_bind, p0, q0, Result.andThen_ok, eI]
  cases (x.n == y.n)
  · simp only [Bool.not_false, if_true, Sem.run_pure, Bool.false_and]
  · simp only [Bool.not_true, Bool.false_eq_true, if_false, Sem.run_bind, p1, q1, Result.andThen_ok, eS, Bool.true_and]
    cases (x.s.toList == y.s.toList)
    · simp only [Bool.not_false, if_true, Sem.run_pure, Bool.false_and]
    · simp only [Bool.not_true, Bool.false_eq_true, if_false, Sem.run_bind, p2, q2, Result.andThen_ok, eT, Bool.true_and]
      cases (x.t == y.t)
      · simp only [Bool.not_false, if_true, Sem.run_pure]
      · simp only [Bool.not_true, Bool.false_eq_true, if_false, Sem.run_pure]
theorem Ev.eq10 (x y : Ev) (hx : x.ok) (hy : y.ok) (w : World) : (Op.equalIn 10000 55 (.agg x.cells.toArray) (.agg y.cells.toArray)).run Try.prog w = .ok (Ev.B x y) w := Ev.eqIn x y hx.tl hy.tl 9997 w
theorem fldRq : (Try.prog.fieldsOf 73).toList.map (fun f => (f.name, f.type, f.offset)) = [("Client", 3, 0), ("Num", 3, 1), ("Data", 9, 2), ("Tag", 53, 3)] := by kernel_rfl
theorem undRq : Try.prog.underlying 73 = some (.struct (Try.prog.fieldsOf 73)) := by kernel_rfl
theorem sihRq : Try.prog.stoodInHeld 73 = false := by kernel_rfl
def Rq.B (x y : Rq) : Bool := (x.c == y.c) && ((x.n == y.n) && ((x.s.toList == y.s.toList) && ((x.t == y.t))))
theorem Rq.B_iff {x y : Rq} : Rq.B x y = true ↔ x = y := by
  cases x
  cases y
  simp [Rq.B, toList_iff]
theorem Rq.eqIn (x y : Rq) (hx : x.t.length = 16) (hy : y.t.length = 16) (d : Nat) (w : World) :
    (Op.equalIn (d + 2 + 1) 73 (.agg x.cells.toArray) (.agg y.cells.toArray)).run Try.prog w = .ok (Rq.B x y) w := by
  rw [run_equalIn_struct w (d + 2) 73 _ _ undRq sihRq]
  have hf := fldRq
  generalize (Try.prog.fieldsOf 73).toList = fs at hf
  obtain ⟨f0, f1, f2, f3, rfl⟩ : ∃ f0 f1 f2 f3, fs = [f0, f1, f2, f3] := by
    rcases fs with _ | ⟨f0, _ | ⟨f1, _ | ⟨f2, _ | ⟨f3, _ | ⟨f4, fs⟩⟩⟩⟩⟩ <;> simp at hf
    exact ⟨f0, f1, f2, f3, rfl⟩
  simp only [List.map_cons, List.map_nil, List.cons.injEq, Prod.mk.injEq, and_true] at hf
  obtain ⟨⟨a0, b0, d0⟩, ⟨a1, b1, d1⟩, ⟨a2, b2, d2⟩, ⟨a3, b3, d3⟩⟩ := hf
  have p0 := part_intV w x.cells 0 x.c rfl
  have q0 := part_intV w y.cells 0 y.c rfl
  have p1 := part_intV w x.cells 1 x.n rfl
  have q1 := part_intV w y.cells 1 y.n rfl
  have p2 := part_strV w x.cells 2 x.s rfl
  have q2 := part_strV w y.cells 2 y.s rfl
  have p3 := part_tagV w x.cells 3 x.t (by show List.take 16 (v8 x.t) = v8 x.t; rw [List.take_of_length_le (by rw [v8_length, hx]; exact Nat.le_refl _)])
  have q3 := part_tagV w y.cells 3 y.t (by show List.take 16 (v8 y.t) = v8 y.t; rw [List.take_of_length_le (by rw [v8_length, hy]; exact Nat.le_refl _)])
  have eI := fun a b => run_equalIn_int (P := Try.prog) w (d + 1) 3 .i64 .i64 a b Try.underlying3
  have eS := fun a b => run_equalIn_string (P := Try.prog) w (d + 1) 9 a b Try.underlying9
  have eT := run_equal8 (P := Try.prog) w d 53 5 16 Try.underlying53 Try.underlying5 isz8 x.t y.t hx hy
  unfold Rq.B
  generalize x.cells.toArray = q at *
  generalize y.cells.toArray = q' at *
  obtain ⟨T, hT⟩ : ∃ T, (v8 x.t).toArray = T := ⟨_, rfl⟩
  obtain ⟨T', hT'⟩ : ∃ T, (v8 y.t).toArray = T := ⟨_, rfl⟩
  rw [hT] at p3 eT
  rw [hT'] at q3 eT
  clear hT hT'
  obtain ⟨D, hD⟩ : ∃ D, d + 1 + 1 = D := ⟨_, rfl⟩
  have eT : (Op.equalIn (d + 1 + 1) 53 (.agg T) (.agg T')).run Try.prog w = .ok (x.t == y.t) w := eT
  rw [hD] at eT
  have n0 : ¬ ("Client" = "_") := by decide
  have n1 : ¬ ("Num" = "_") := by decide
  have n2 : ¬ ("Data" = "_") := by decide
  have n3 : ¬ ("Tag" = "_") := by decide
  simp only [Op.eqFields, a0, b0, d0, a1, b1, d1, a2, b2, d2, a3, b3, d3, ne_eq, n0, n1, n2, n3, not_false_eq_true, if_true]
  rw [show d + 2 = d + 1 + 1 from rfl, hD]
  rw [hD] at eI
  simp only [hD] at eS
  clear hD
  simp only [Sem.run_bind, p0, q0, Result.andThen_ok, eI]
  cases (x.c == y.c)
  · simp only [Bool.not_false, if_true, Sem.run_pure, Bool.false_and]
  · simp only [Bool.not_true, Bool.false_eq_true, if_false, Sem.run_bind, p1, q1, Result.andThen_ok, eI, Bool.true_and]
    cases (x.n == y.n)
    · simp only [Bool.not_false, if_true, Sem.run_pure, Bool.false_and]
    · simp only [Bool.not_true, Bool.false_eq_true, if_false, Sem.run_bind, p2, q2, Result.andThen_ok, eS, Bool.true_and]
      cases (x.s.toList == y.s.toList)
      · simp only [Bool.not_false, if_true, Sem.run_pure, Bool.false_and]
      · simp only [Bool.not_true, Bool.false_eq_true, if_false, Sem.run_bind, p3, q3, Result.andThen_ok, eT, Bool.true_and]
        cases (x.t == y.t)
        · simp only [Bool.not_false, if_true, Sem.run_pure]
        · simp only [Bool.not_true, Bool.false_eq_true, if_false, Sem.run_pure]
theorem Rq.eq10 (x y : Rq) (hx : x.ok) (hy : y.ok) (w : World) : (Op.equalIn 10000 73 (.agg x.cells.toArray) (.agg y.cells.toArray)).run Try.prog w = .ok (Rq.B x y) w := Rq.eqIn x y hx.tl hy.tl 9997 w
end Go.Proofs.Ytahdmajppnffeaa
