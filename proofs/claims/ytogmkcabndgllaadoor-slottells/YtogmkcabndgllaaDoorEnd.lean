/- (*digest.running).end: the last bytes go behind what came; the words are told. -/
import Derived.Test.YtogmkcabndgllaaDoorAdd
namespace Go.Proofs.YtogmkcabndgllaaDoor
open Go.RowKit
open Sha
theorem range_fill {w : World} {b o : Nat} {cs old rest vs : List Value} (h : w.rangeAt b o (cs ++ old ++ rest)) (hl : old.length = vs.length) (ht : w.there b (o + cs.length) vs.length) : (w.setCells b (o + cs.length) vs).rangeAt b o (cs ++ vs ++ rest) := by
  have q1 := range_left (range_left h)
  have q2 := range_right h
  refine range_join (range_join (World.rangeAt_setCells_apart q1 _ _ _ (Or.inr (Or.inl (Nat.le_refl _)))) (World.rangeAt_setCells_same w b _ vs ht)) ?_
  have q3 := World.rangeAt_setCells_apart q2 b (o + cs.length) vs (Or.inr (Or.inr (by simp [hl]; omega)))
  simp only [List.length_append, hl] at q3 ⊢
  exact q3
theorem there_gb {w w' : World} {R b o n : Nat} (h : w.there b o n) (g : w.grownBy w' (some R)) (hb : b < w.heap.size) (hn : b ≠ R) : w'.there b o n := fun j hj => by
  obtain ⟨h1, h2⟩ := h j hj
  obtain ⟨u, hu⟩ := Option.isSome_iff_exists.1 h1
  refine ⟨by rw [g.cell hu (by simpa using hn)]; rfl, ?_⟩
  rw [World.frozen?_of_block (w := w) (g.block b hb (by simpa using hn))]; exact h2
theorem gb_past {w wr : World} {r : Option Nat} {D : Nat} (h : w.grownBy wr r) (hD : w.heap.size ≤ D) (o : Nat) (v : Value) : w.grownBy (wr.setCell ⟨D, o, none⟩ v) r :=
  ⟨h.os, h.tape, h.output, by simpa using h.size, fun k hk hr => (Below.heap_setCell wr ⟨D, o, none⟩ v k (by show k ≠ D; omega)).trans (h.block k hk hr)⟩
theorem gb_sets_past {w : World} {r : Option Nat} {D : Nat} (hD : w.heap.size ≤ D) : ∀ (vs : List Value) (o : Nat) (wr : World), w.grownBy wr r → w.grownBy (wr.setCells D o vs) r
  | [], _, _, h => h
  | v :: vs, o, _, h => gb_sets_past hD vs (o + 1) _ (gb_past h hD o v)
namespace Sha
theorem set_fillI (xs : List Int) (n : Nat) (x : Int) (hn : 0 < n) : (xs ++ List.replicate n (0 : Int)).set xs.length x = (xs ++ [x]) ++ List.replicate (n - 1) (0 : Int) := by
  obtain ⟨m, rfl⟩ : ∃ m, n = m + 1 := ⟨n - 1, by omega⟩
  simp [List.replicate_succ]
def s8at (N i : Nat) : Int := ((N / 2 ^ (56 - 8 * i) % 256 : Nat) : Int)
theorem size8_length (N : Nat) : (size8 N).length = 8 := by simp [size8]
theorem size8_take (N k : Nat) (hk : k < 8) : (size8 N).take (k + 1) = (size8 N).take k ++ [s8at N k] := by
  rw [List.take_succ_eq_append_getElem (by rw [size8_length]; exact hk)]
  simp [size8, s8at]
theorem size8_ok (N : Nat) : ∀ z ∈ size8 N, 0 ≤ z ∧ z < 256 := by
  intro z hz
  obtain ⟨i, _, rfl⟩ := List.mem_map.1 hz
  omega
theorem tail_ok (n : Nat) : ∀ z ∈ tail n, 0 ≤ z ∧ z < 256 := by
  intro z hz
  unfold tail at hz
  rcases List.mem_cons.1 hz with rfl | hz
  · decide
  · rcases List.mem_append.1 hz with hz | hz
    · obtain ⟨_, rfl⟩ := List.mem_replicate.1 hz; decide
    · exact size8_ok _ z hz
theorem tail_length (n : Nat) : (tail n).length = 9 + (119 - n % 64) % 64 := by
  simp [tail, size8_length]; omega
theorem shift8 (n k : Nat) : 8 * (n : Int) / 2 ^ (56 - 8 * k) % 256 = s8at (8 * n) k := by
  unfold s8at
  simp
def outb (xs : List Wd) : List Int := xs.flatMap four
theorem bytes_out (s : St) : bytes s = outb (list s) := rfl
theorem outb_snoc (xs : List Wd) (x : Wd) : outb (xs ++ [x]) = outb xs ++ four x := by simp [outb]
theorem outb_length (xs : List Wd) : (outb xs).length = 4 * xs.length := by
  induction xs with
  | nil => rfl
  | cons x r ih =>
    have : outb (x :: r) = four x ++ outb r := by simp [outb]
    rw [this, List.length_append, ih]; simp [four]; omega
theorem four_ok (x : Wd) : ∀ z ∈ four x, 0 ≤ z ∧ z < 256 := by
  intro z hz
  simp only [four, List.mem_cons, List.not_mem_nil, or_false] at hz
  rcases hz with rfl | rfl | rfl | rfl <;> unfold Sha.byteOf <;> omega
theorem outb_ok (xs : List Wd) : ∀ z ∈ outb xs, 0 ≤ z ∧ z < 256 := by
  intro z hz
  obtain ⟨x, _, hx⟩ := List.mem_flatMap.1 hz
  exact four_ok x z hx
theorem feed_len (p : St × List Int) (z : Int) (h : p.2.length < 64) : (feed p z).2.length = (p.2.length + 1) % 64 ∧ (feed p z).2.length < 64 := by
  unfold feed
  by_cases e : p.2.length = 63
  · rw [if_pos e]; simp [e]
  · rw [if_neg e]; simp; omega
theorem feeds_len (zs : List Int) (p : St × List Int) (h : p.2.length < 64) : (feeds p zs).2.length = (p.2.length + zs.length) % 64 ∧ (feeds p zs).2.length < 64 := by
  induction zs generalizing p with
  | nil => simp [feeds]; omega
  | cons z r ih =>
    have e : feeds p (z :: r) = feeds (feed p z) r := rfl
    obtain ⟨h1, h2⟩ := feed_len p z h
    obtain ⟨h3, h4⟩ := ih (feed p z) h2
    rw [e]
    refine ⟨?_, h4⟩
    rw [h3, h1]; simp; omega
end Sha
theorem idx8 (s : St) (j : Nat) (hj : j < 8) : ∃ x, (list s).take (j + 1) = (list s).take j ++ [x] ∧ ∀ w, (Instr.index 87 (.agg (v32 (list s)).toArray) (.int .i64 (j : Int))).run Tryd.prog w = .ok (.int .u32 (x.toNat : Int)) w := by
  match j, hj with
  | 0, _ => exact ⟨s.a, rfl, fun _ => by kernel_rfl⟩
  | 1, _ => exact ⟨s.b, rfl, fun _ => by kernel_rfl⟩
  | 2, _ => exact ⟨s.c, rfl, fun _ => by kernel_rfl⟩
  | 3, _ => exact ⟨s.d, rfl, fun _ => by kernel_rfl⟩
  | 4, _ => exact ⟨s.e, rfl, fun _ => by kernel_rfl⟩
  | 5, _ => exact ⟨s.f, rfl, fun _ => by kernel_rfl⟩
  | 6, _ => exact ⟨s.g, rfl, fun _ => by kernel_rfl⟩
  | 7, _ => exact ⟨s.h, rfl, fun _ => by kernel_rfl⟩
theorem isz24 : (Tryd.prog.info? 26).map (·.size) = some 32 := by kernel_rfl
theorem isz51 : (Tryd.prog.info? 87).map (·.size) = some 8 := by kernel_rfl
theorem new_bytes (w : World) (n : Nat) (t : TypeId) : (w.alloc (.cells (Array.replicate n (.int .u8 0)) t)).rangeAt w.heap.size 0 (v8 (List.replicate n (0 : Int))) ∧ (w.alloc (.cells (Array.replicate n (.int .u8 0)) t)).there w.heap.size 0 n := by
  have h1 := range_new w (Array.replicate n (.int .u8 0)) t
  have h2 := there_new w (Array.replicate n (.int .u8 0)) t
  exact ⟨by simpa [v8] using h1, by simpa using h2⟩
theorem Run.below {w w' : World} {R : Nat} {s : St} {wait : List Int} {n : Nat} (h : Run w R s wait n) (hb : Below w.heap.size w w') : Run w' R s wait n := by
  obtain ⟨h1, h2, h3, h4, h5, h6, ⟨junk, h7, h8⟩, h9, h10, h11⟩ := h
  exact ⟨h1, Nat.lt_of_lt_of_le h2 hb.size, there_below h3 hb h2, range_below h4 hb h2, h5, h6, ⟨junk, h7, range_below h8 hb h2⟩, (hb.cell (p := ⟨R, 72, none⟩) h2).trans h9, (hb.cell (p := ⟨R, 73, none⟩) h2).trans h10, range_below h11 hb (by omega)⟩
namespace Sha
def pre (fill N k : Nat) : List Int := ((128 : Int) :: List.replicate (fill - 1) 0) ++ (size8 N).take k
theorem pre_length (fill N k : Nat) (hf : 1 ≤ fill) (hk : k ≤ 8) : (pre fill N k).length = fill + k := by
  simp [pre, size8_length]; omega
theorem pre_succ (fill N k : Nat) (hk : k < 8) : pre fill N (k + 1) = pre fill N k ++ [s8at N k] := by
  unfold pre; rw [size8_take N k hk, List.append_assoc]
theorem pre_tail (n fill : Nat) (h : fill = 1 + (119 - n % 64) % 64) : pre fill (8 * n) 8 = Sha.tail n := by
  unfold pre Sha.tail
  rw [List.take_of_length_le (by rw [size8_length]; omega), h]
  simp
end Sha
set_option maxRecDepth 20000 in
set_option maxHeartbeats 2000000 in
theorem end_any (R : Nat) (s : St) (wait : List Int) (n : Nat) (w : World) (h : Run w R s wait n) (hh : wait.length = n % 64) (hn : n < 1152921504606846976) :
   Calls Tryd.prog 43 #[.pointer (some ⟨R, 0, none⟩)] w fun e w' => e = .returned (.agg (v8 (Sha.bytes (feeds (s, wait) (Sha.tail n)).1)).toArray) ∧ w.grownBy w' (some R) := by
  have hc := h.count
  have hd := h.held
  have few := h.few
  have hRs := h.lt
  obtain ⟨fill, hfill, hfi⟩ : ∃ fill : Nat, Hid (fill = 1 + (119 - n % 64) % 64) ∧ (64 : Int) - ((wait.length : Int) + 8) % 64 = (fill : Int) := ⟨1 + (119 - n % 64) % 64, rfl, by rw [hh]; omega⟩
  have hf1 : 1 ≤ fill := by rw [hfill.out]; omega
  have hf2 : fill ≤ 64 := by rw [hfill.out]; omega
  have HH : Hid (wait.length = n % 64) := hh
  have hz : ∀ w, (zeroValue 109).run Tryd.prog w = .ok (.agg (Array.replicate 72 (.int .u8 0))) w := fun _ => by kernel_rfl
  clear hh
  go_enter Tryd.func43, Tryd.ntmps43
  go_upto_region 4 with fail
  go_name_world w1 hw1
  obtain ⟨hB1, hZ, hT, hT0, hz1⟩ : Below w.heap.size w w1 ∧ w1.rangeAt (w.heap.size + 1) 0 (v8 (List.replicate 72 (0 : Int))) ∧ w1.there (w.heap.size + 1) 0 72 ∧ w1.there w.heap.size 0 32 ∧ w1.heap.size = w.heap.size + 2 := by
    have q := new_bytes (w.alloc (.cells (Array.replicate 32 (.int .u8 0)) 26)) 72 109
    have q2 := World.there_alloc (new_bytes w 32 26).2 (.cells (Array.replicate 72 (.int .u8 0)) 109)
    have es : (w.alloc (.cells (Array.replicate 32 (.int .u8 0)) 26)).heap.size = w.heap.size + 1 := by simp
    have hB : Below w.heap.size w ((w.alloc (.cells (Array.replicate 32 (.int .u8 0)) 26)).alloc (.cells (Array.replicate 72 (.int .u8 0)) 109)) := ((Below.refl _ _).alloc (Nat.le_refl _) _).alloc (by simp) _
    have hs : ((w.alloc (.cells (Array.replicate 32 (.int .u8 0)) 26)).alloc (.cells (Array.replicate 72 (.int .u8 0)) 109)).heap.size = w.heap.size + 2 := by simp
    rw [es] at q
    rw [show (w.alloc (.cells (Array.replicate 32 (.int .u8 0)) 26)).alloc (.cells (Array.replicate 72 (.int .u8 0)) 109) = w1 from hw1] at q q2 hB hs
    exact ⟨hB, q.1, q.2, q2, hs⟩
  clear hw1 hz hc hd few hfi
  obtain ⟨u0, hu0⟩ := Option.isSome_iff_exists.1 (hT 0 (by omega)).1
  have hf0 := (hT 0 (by omega)).2
  rw [Nat.add_zero] at hu0 hf0
  go_wp2_with fail
  have hZ0 := range_set hZ 0 (.int .u8 128)
  rw [v8_set] at hZ0
  have hS0 : (List.replicate 72 (0 : Int)).set 0 128 = Sha.pre fill (8 * n) 0 ++ List.replicate (72 - fill - 0) (0 : Int) := by
    unfold Sha.pre
    rw [List.take_zero, List.append_nil, List.cons_append, List.replicate_append_replicate, show fill - 1 + (72 - fill - 0) = 71 by omega]
    rfl
  rw [hS0] at hZ0
  have hT1 := there_set hT ⟨w.heap.size + 1, 0, none⟩ (.int .u8 128)
  have hT2 := there_set hT0 ⟨w.heap.size + 1, 0, none⟩ (.int .u8 128)
  have hB2 := hB1.setCell (p := ⟨w.heap.size + 1, 0, none⟩) (by simp) (.int .u8 128)
  have hz2 : (w1.setCell ⟨w.heap.size + 1, 0, none⟩ (.int .u8 128)).heap.size = w.heap.size + 2 := by simpa using hz1
  clear hS0 hu0 hf0 hT hT0 hB1 hZ
  go_loopw [23] (fun i wr => ∃ k : Nat, k ≤ 8 ∧ i = .int .i64 (k : Int) ∧ wr.rangeAt (w.heap.size + 1) 0 (v8 (Sha.pre fill (8 * n) k ++ List.replicate (72 - fill - k) (0 : Int))) ∧ wr.there (w.heap.size + 1) 0 72 ∧ wr.there w.heap.size 0 32 ∧ Below w.heap.size w wr ∧ wr.heap.size = w.heap.size + 2) (fun i _ => 8 - (intOf i).toNat)
  case atStart => exact ⟨0, by omega, rfl, hZ0, hT1, hT2, hB2, hz2⟩
  case round =>
    clear hZ0 hT1 hT2 hB2 hz2
    obtain ⟨k, hk, rfl, hZ, hT, hT0, hB, hsz⟩ := hrel
    by_cases hlt : k < 8
    · obtain ⟨u, hu⟩ := Option.isSome_iff_exists.1 (hT (fill + k) (by omega)).1
      have hf := (hT (fill + k) (by omega)).2
      rw [Nat.zero_add] at hu hf
      go_wp2_with fail
      rw [shift8]
      go_roundw
      case rel =>
        refine ⟨k + 1, by omega, by go_num, ?_, there_set hT _ _, there_set hT0 _ _, hB.setCell (p := ⟨w.heap.size + 1, fill + k, none⟩) (by simp) _, by simpa using hsz⟩
        have := range_set hZ (fill + k) (.int .u8 (s8at (8 * n) k))
        rw [Nat.zero_add, v8_set] at this
        have e1 := set_fillI (Sha.pre fill (8 * n) k) (72 - fill - k) (s8at (8 * n) k) (by omega)
        rw [pre_length _ _ _ hf1 hk] at e1
        rw [e1] at this
        rw [pre_succ _ _ _ hlt]
        exact this
      case measure => simp [intOf]; omega
    · obtain rfl : k = 8 := by omega
      rw [pre_tail n fill hfill.out] at hZ
      have hlt : (Sha.tail n).length = fill + 8 := by rw [tail_length, hfill.out]; omega
      have hrow : RowAt wr (some ⟨w.heap.size + 1, 0, none⟩) (Sha.tail n) := ⟨by rw [hlt]; unfold maxLen; omega, tail_ok n, Or.inr ⟨_, _, rfl, by omega, by rw [v8_append] at hZ; exact range_left hZ⟩⟩
      have hRun := h.below hB
      have ca := add_any R s wait n (some ⟨w.heap.size + 1, 0, none⟩) 72 (Sha.tail n) wr hRun hrow (by omega) (by unfold maxLen; omega) (Or.inr (fun x hx => by cases hx; simp; omega)) (by omega)
      rw [hlt] at ca
      have hsl := slice_h (w := wr) Tryd.underlying109 isz8 (w.heap.size + 1) 0 (fill + 8) ((fill : Int) + 8) (by omega) (by omega) (by omega)
      obtain ⟨p, hp⟩ : ∃ p, Hid (feeds (s, wait) (Sha.tail n) = p) := ⟨_, rfl⟩
      rw [hp.out] at ca
      clear hZ hT hrow hRun hlt hfill
      go_wp2_with fail
      refine ca.mono ?_
      rintro e w2 ⟨rfl, hR2, hg2⟩
      clear ca hsl
      have hs2 := hg2.size
      have hT2 : w2.there w.heap.size 0 32 := there_gb hT0 hg2 (by omega) (by omega)
      have hgw : w.grownBy w2 (some R) := gb_trans (gb_below hB _) hg2
      have hW2 := hR2.wds
      have hR2lt := hR2.lt
      obtain ⟨r, hr⟩ : ∃ r, Hid (p.1 = r) := ⟨_, rfl⟩
      rw [hr.out] at hW2
      have hDw : w.heap.size < w2.heap.size := by omega
      clear hR2 hT0 hB hsz hg2 h
      have q := new_bytes w2 32 26
      have hW3 := World.rangeAt_alloc hW2 (.cells (Array.replicate 32 (.int .u8 0)) 26)
      have hT3 := World.there_alloc hT2 (.cells (Array.replicate 32 (.int .u8 0)) 26)
      have hg3 : w.grownBy (w2.alloc (.cells (Array.replicate 32 (.int .u8 0)) 26)) (some R) := gb_trans hgw (World.grownBy_alloc _ _ _)
      have hi8 : (Tryd.prog.info? 87).map (·.size) = some (v32 (list r)).length := by rw [v32_length]; exact isz51
      go_wp2_with (refine wpList_load_mid rfl 87 _ rfl R 0 rfl (v32 (list r)) _ hW3 Tryd.underlying87 rfl hi8 ?_)
      go_name_world w3 hw3
      rw [show w2.alloc (.cells (Array.replicate 32 (.int .u8 0)) 26) = w3 from hw3] at q hT3 hg3
      obtain ⟨hZ3, hN3⟩ := q
      clear hw3 hW3 hi8 hW2 hgw hT2
      have hDR : w2.heap.size ≠ R := by omega
      generalize w2.heap.size = D at hZ3 hN3 hDR hDw ⊢
      clear hs2 hR2lt
      go_loopw [46] (fun i wr => ∃ j : Nat, j ≤ 8 ∧ i = .int .i64 (j : Int) ∧ wr.rangeAt D 0 (v8 (outb ((list r).take j) ++ List.replicate (32 - 4 * j) (0 : Int))) ∧ wr.there D 0 32 ∧ wr.there w.heap.size 0 32 ∧ w.grownBy wr (some R)) (fun i _ => 8 - (intOf i).toNat)
      case atStart => exact ⟨0, by omega, rfl, hZ3, hN3, hT3, hg3⟩
      case round =>
        clear hZ3 hN3 hT3 hg3
        obtain ⟨j, hj, rfl, hZ, hT, hT0, hg⟩ := hrel
        by_cases hl8 : j < 8
        · obtain ⟨x, hx, hix⟩ := idx8 r j hl8
          have HXX : Hid ((list r).take (j + 1) = (list r).take j ++ [x]) := hx
          clear hx
          have hth : wr.there D (4 * j) 4 := by
            have := there_part hT (4 * j) 4 (by omega)
            rwa [Nat.zero_add] at this
          have cp := putWord_any D (4 * j) (32 - 4 * j) (32 - 4 * j) x wr (by omega) (by omega) hth
          have hsl := slice_l (w := wr) Tryd.underlying26 isz8 D 0 (4 * j) (4 * (j : Int)) (by omega) (by omega)
          rw [Nat.zero_add] at hsl
          go_wp2_with fail
          refine cp.mono ?_
          rintro e w4 ⟨rfl, rfl⟩
          clear cp hsl hix
          go_wp2_with fail
          go_roundw
          case rel =>
            refine ⟨j + 1, by omega, by go_num, ?_, World.there_setCells hT _ _ _, World.there_setCells hT0 _ _ _, gb_sets_past (by omega) _ _ _ hg⟩
            rw [HXX.out, outb_snoc]
            have hol : (outb ((list r).take j)).length = 4 * j := by rw [outb_length, List.length_take]; simp [list]; omega
            have e0 : List.replicate (32 - 4 * j) (0 : Int) = List.replicate 4 (0 : Int) ++ List.replicate (32 - 4 * (j + 1)) (0 : Int) := by
              rw [List.replicate_append_replicate]; congr 1; omega
            rw [e0, ← List.append_assoc, v8_append, v8_append] at hZ
            have := range_fill (vs := v8 (four x)) hZ (by simp [four]) (by rw [v8_length, hol, Nat.zero_add]; exact hth)
            rw [v8_length, hol, Nat.zero_add, ← v8_append, ← v8_append] at this
            exact this
          case measure => simp [intOf]; omega
        · obtain rfl : j = 8 := by omega
          have hZ8 : wr.rangeAt D 0 (v8 (Sha.bytes r)) := by
            have e8 : (list r).take 8 = list r := rfl
            rw [e8] at hZ
            simpa [bytes_out] using hZ
          have hbl : (v8 (Sha.bytes r)).length = 32 := by rw [v8_length, bytes_out, outb_length]; rfl
          have h1c := v8_one (Sha.bytes r)
          obtain ⟨cs, hcs⟩ : ∃ cs, Hid (v8 (Sha.bytes r) = cs) := ⟨_, rfl⟩
          rw [hcs.out] at hZ8 hbl h1c
          have hi : (Tryd.prog.info? 26).map (·.size) = some cs.length := by rw [hbl]; exact isz24
          go_upto_region 17 with fail
          refine wp_region_list ?_
          refine wpList_load_mid rfl 26 _ rfl _ _ rfl cs _ hZ8 Tryd.underlying26 rfl hi ?_
          refine wpList_store_mid rfl 26 _ _ rfl _ _ cs.toArray rfl rfl (by simpa [hbl] using hT0) (by simpa using hi) (all_oneCell_toArray h1c) ?_
          have hRr := World.rangeAt_setCells_same wr w.heap.size 0 cs (by rw [hbl]; exact hT0)
          have hgl := gb_sets_past (Nat.le_refl _) cs 0 wr hg
          generalize wr.setCells w.heap.size 0 cs = wx at *
          have hrs := run_loadVar_mid (P := Tryd.prog) wx w.heap.size 0 26 cs _ hRr Tryd.underlying26 rfl hi
          clear hi
          go_wp2_with fail
          refine bodyPost_ret (v := .agg cs.toArray) (by simp [results, Tryd.results43, Act.put, asAddr, hrs]) rfl ⟨by rw [hp.out, hr.out, hcs.out], hgl⟩
end Go.Proofs.YtogmkcabndgllaaDoor
