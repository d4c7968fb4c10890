/- (*digest.running).turn: a block that waits goes through the rounds. -/
import Derived.Test.YtogmkcabndgllaaDoorSpread
import Derived.Deep.QuietTactic
import Derived.BigQuiet
import Derived.Lib.ItoaWalk
namespace Go.Proofs.YtogmkcabndgllaaDoor
open Go.RowKit
open Sha
theorem gb_refl (w : World) (r : Option Nat) : w.grownBy w r := ⟨rfl, rfl, rfl, Nat.le_refl _, fun _ _ _ => rfl⟩
theorem gb_trans {w w1 w2 : World} {r : Option Nat} (h : w.grownBy w1 r) (k : w1.grownBy w2 r) : w.grownBy w2 r :=
  ⟨k.os.trans h.os, k.tape.trans h.tape, k.output.trans h.output, Nat.le_trans h.size k.size, fun i hi hr => (k.block i (Nat.lt_of_lt_of_le hi h.size) hr).trans (h.block i hi hr)⟩
theorem gb_set (w : World) (R j : Nat) (v : Value) : w.grownBy (w.setCell ⟨R, j, none⟩ v) (some R) :=
  ⟨rfl, rfl, rfl, by simp [World.setCell], fun k _ hk => Below.heap_setCell w _ v k (fun e => hk (by rw [e]))⟩
theorem gb_below {w w' : World} (h : Below w.heap.size w w') (r : Option Nat) : w.grownBy w' r := ⟨h.os, h.tape, h.output, h.size, fun k hk _ => h.block k hk⟩
theorem gb_drew {w w' : World} {r : Option Nat} (h : w.grownBy w' r) : w.grownBy w'.drew r := ⟨h.os, h.tape, h.output, h.size, h.block⟩
theorem gb_drewN {w w' : World} {r : Option Nat} (h : w.grownBy w' r) (n : Nat) : w.grownBy (w'.drewN n) r := ⟨h.os, h.tape, h.output, h.size, h.block⟩
theorem range_gb {w w' : World} {R b o : Nat} {cs : List Value} (h : w.rangeAt b o cs) (g : w.grownBy w' (some R)) (hn : b ≠ R) : w'.rangeAt b o cs := fun j v hv => g.cell (h j v hv) (by simpa using hn)
/-- the constants' table -/
def kl : List Wd := ks.map (BitVec.ofNat 32)
theorem kl_at (t : Nat) (h : t < 64) : kl.getD t 0 = k t := by
  simp only [kl, k, List.getD_eq_getElem?_getD, List.getElem?_map]
  rw [List.getElem?_eq_getElem (show t < ks.length from h)]; rfl
/-- what is left alone: the receiver's later cells, all other blocks -/
def Keep (R : Nat) (w wr : World) : Prop := (∀ j, 8 ≤ j → wr.cell? ⟨R, j, none⟩ = w.cell? ⟨R, j, none⟩) ∧ (∀ j, wr.frozen? ⟨R, j, none⟩ = w.frozen? ⟨R, j, none⟩) ∧ w.grownBy wr (some R)
theorem Keep.refl (R : Nat) (w : World) : Keep R w w := ⟨fun _ _ => rfl, fun _ => rfl, gb_refl _ _⟩
theorem Keep.drewN {R : Nat} {w wr : World} (h : Keep R w wr) (n : Nat) : Keep R w (wr.drewN n) := ⟨fun j hj => (by simpa using h.1 j hj), fun j => (by simpa using h.2.1 j), gb_drewN h.2.2 n⟩
theorem Keep.below {R : Nat} {w wr wx : World} (h : Keep R w wr) (hb : Below wr.heap.size wr wx) (hR : R < wr.heap.size) : Keep R w wx :=
  ⟨fun j hj => (hb.cell (p := ⟨R, j, none⟩) hR).trans (h.1 j hj), fun j => (hb.frozen (p := ⟨R, j, none⟩) hR).trans (h.2.1 j), gb_trans h.2.2 (gb_below hb _)⟩
theorem Keep.set {R : Nat} {w wr : World} (h : Keep R w wr) (i : Nat) (hi : i < 8) (v : Value) : Keep R w (wr.setCell ⟨R, i, none⟩ v) :=
  ⟨fun j hj => (World.cell?_setCell_other _ _ _ _ (fun q => by injection q with _ q2 _; omega)).trans (h.1 j hj), fun j => (World.frozen?_setCell _ _ _ _).trans (h.2.1 j), gb_trans h.2.2 (gb_set _ _ _ _)⟩
theorem range_drewN {w : World} {b o n : Nat} {cs : List Value} (h : w.rangeAt b o cs) : (w.drewN n).rangeAt b o cs := fun j v hv => by simpa using h j v hv
theorem there_drewN {w : World} {b o n m : Nat} (h : w.there b o m) : (w.drewN n).there b o m := fun j hj => by simpa using h j hj
namespace Sha
theorem not32 (x : Wd) : bits .xor .u32 IntKind.u32.max (x.toNat : Int) = ((~~~ x).toNat : Int) := by
  show IntKind.u32.wrap ((BitVec.ofInt 32 (4294967295 : Int) ^^^ BitVec.ofInt 32 (x.toNat : Int)).toNat : Int) = _
  rw [ofInt32, wrap_u32_small _ (BitVec.isLt _)]
  have e : BitVec.ofInt 32 4294967295 = BitVec.allOnes 32 := by decide
  rw [e, BitVec.allOnes_xor]
theorem t1_bits (kk x a b c d e f g h : Wd) : (((h.toNat : Int) + bits .xor .u32 (bits .xor .u32 ((rotr e 6).toNat : Int) ((rotr e 11).toNat : Int)) ((rotr e 25).toNat : Int) + bits .xor .u32 (bits .and .u32 (e.toNat : Int) (f.toNat : Int)) (bits .and .u32 (bits .xor .u32 (if IntKind.u32.signed = true then -1 else IntKind.u32.max) (e.toNat : Int)) (g.toNat : Int)) + (kk.toNat : Int)) % 4294967296 + (x.toNat : Int)) % 4294967296 = ((t1 kk x ⟨a, b, c, d, e, f, g, h⟩).toNat : Int) := by
  have hm : (if IntKind.u32.signed = true then -1 else IntKind.u32.max) = IntKind.u32.max := by decide
  rw [hm]
  simp only [not32, xor32, and32]
  show _ = ((h + (rotr e 6 ^^^ rotr e 11 ^^^ rotr e 25) + ((e &&& f) ^^^ (~~~ e &&& g)) + kk + x : Wd).toNat : Int)
  generalize (rotr e 6 ^^^ rotr e 11 ^^^ rotr e 25) = p
  generalize ((e &&& f) ^^^ (~~~ e &&& g)) = q
  rw [BitVec.toNat_add, BitVec.toNat_add, BitVec.toNat_add, BitVec.toNat_add]; omega
theorem t2_bits (a b c d e f g h : Wd) : (bits .xor .u32 (bits .xor .u32 ((rotr a 2).toNat : Int) ((rotr a 13).toNat : Int)) ((rotr a 22).toNat : Int) + bits .xor .u32 (bits .xor .u32 (bits .and .u32 (a.toNat : Int) (b.toNat : Int)) (bits .and .u32 (a.toNat : Int) (c.toNat : Int))) (bits .and .u32 (b.toNat : Int) (c.toNat : Int))) % 4294967296 = ((t2 ⟨a, b, c, d, e, f, g, h⟩).toNat : Int) := by
  simp only [xor32, and32]
  show _ = (((rotr a 2 ^^^ rotr a 13 ^^^ rotr a 22) + ((a &&& b) ^^^ (a &&& c) ^^^ (b &&& c)) : Wd).toNat : Int)
  generalize (rotr a 2 ^^^ rotr a 13 ^^^ rotr a 22) = p
  generalize ((a &&& b) ^^^ (a &&& c) ^^^ (b &&& c)) = q
  rw [BitVec.toNat_add]; omega
end Sha
/-- the sums up to j, the words so far from j on -/
def mix (s r : St) (j : Nat) : List Wd := (list (plus s r)).take j ++ (list s).drop j
theorem mix_step {wr : World} {R : Nat} (s : St) (a b c d e f g h : Wd) (j : Nat) (hj : j < 8) (hR : wr.rangeAt R 0 (v32 (mix s ⟨a, b, c, d, e, f, g, h⟩ j))) :
    ∃ x y : Wd, (∀ w, (Instr.index 87 (.agg #[.int .u32 (a.toNat : Int), .int .u32 (b.toNat : Int), .int .u32 (c.toNat : Int), .int .u32 (d.toNat : Int), .int .u32 (e.toNat : Int), .int .u32 (f.toNat : Int), .int .u32 (g.toNat : Int), .int .u32 (h.toNat : Int)]) (.int .i64 (j : Int))).run Tryd.prog w = .ok (.int .u32 (x.toNat : Int)) w) ∧
      wr.cell? ⟨R, j, none⟩ = some (.int .u32 (y.toNat : Int)) ∧ Hid ((mix s ⟨a, b, c, d, e, f, g, h⟩ j).set j (y + x) = mix s ⟨a, b, c, d, e, f, g, h⟩ (j + 1)) := by
  match j, hj with
  | 0, _ => exact ⟨a, s.a, fun _ => by kernel_rfl, by simpa using hR 0 _ rfl, rfl⟩
  | 1, _ => exact ⟨b, s.b, fun _ => by kernel_rfl, by simpa using hR 1 _ rfl, rfl⟩
  | 2, _ => exact ⟨c, s.c, fun _ => by kernel_rfl, by simpa using hR 2 _ rfl, rfl⟩
  | 3, _ => exact ⟨d, s.d, fun _ => by kernel_rfl, by simpa using hR 3 _ rfl, rfl⟩
  | 4, _ => exact ⟨e, s.e, fun _ => by kernel_rfl, by simpa using hR 4 _ rfl, rfl⟩
  | 5, _ => exact ⟨f, s.f, fun _ => by kernel_rfl, by simpa using hR 5 _ rfl, rfl⟩
  | 6, _ => exact ⟨g, s.g, fun _ => by kernel_rfl, by simpa using hR 6 _ rfl, rfl⟩
  | 7, _ => exact ⟨h, s.h, fun _ => by kernel_rfl, by simpa using hR 7 _ rfl, rfl⟩
set_option maxRecDepth 20000 in
set_option maxHeartbeats 4000000 in
theorem turn_ws (R : Nat) (s : St) (ws : List Wd) (w : World) (hR : 2 ≤ R) (hRs : R < w.heap.size) (hsl : ws.length = 64)
   (c : Calls Tryd.prog 57 #[.pointer (some ⟨R, 8, none⟩)] w fun e w' => e = .returned (.agg (v32 ws).toArray) ∧ Below w.heap.size w w')
   (hw : w.rangeAt R 0 (v32 (list s))) (hT : w.there R 0 8) (hk : w.rangeAt 1 0 (v32 kl)) :
   Calls Tryd.prog 51 #[.pointer (some ⟨R, 0, none⟩)] w fun e w' => e = .returned (.tuple #[]) ∧ w'.rangeAt R 0 (v32 (list (plus s (rounds ws 64 s)))) ∧ Keep R w w' := by
  have hl2 : (v32 ws).length = 64 := by rw [v32_length, hsl]
  have h1c := v32_one ws
  obtain ⟨cs, hcs0⟩ : ∃ cs, Hid (v32 ws = cs) := ⟨_, rfl⟩
  rw [hcs0.out] at c hl2 h1c
  have hsz : cs.toArray.size = 64 := by rw [List.size_toArray, hl2]
  have hi : (Tryd.prog.info? 102).map (·.size) = some cs.toArray.size := by rw [hsz]; exact isz72
  go_enter Tryd.func51, Tryd.ntmps51
  go_wp2_with fail
  refine c.mono ?_
  rintro e w1 ⟨rfl, hw1⟩
  clear c
  have hT1 : (w1.alloc (.cells (Array.replicate 64 (.int .u32 0)) 102)).there w1.heap.size 0 cs.toArray.size := by rw [hsz]; exact thr_zero w1
  go_wp2_with (refine wpList_store_mid rfl 102 _ _ rfl _ _ cs.toArray rfl rfl hT1 hi (all_oneCell_toArray h1c) ?_)
  go_name_world w2 hw2
  have F := fresh_store w1 (Array.replicate 64 (.int .u32 0)) 102 cs (by rw [hl2]; rfl)
  rw [show (w1.alloc (.cells (Array.replicate 64 (.int .u32 0)) 102)).setCells w1.heap.size 0 cs = w2 from hw2] at F
  obtain ⟨hcs, hB1, hz2, _⟩ := F
  clear hw2 hT1 hi hsz h1c hl2
  have hs1 := hw1.size
  have hB2 := hw1.trans (hB1.mono hs1)
  have hK := (Keep.refl R w).below hB2 hRs
  have hRg := range_below hw hB2 hRs
  have hKl := range_below hk hB2 (by omega)
  have hTh := there_below hT hB2 hRs
  have hBR : R < w1.heap.size := by omega
  clear hB1 hB2 hw1 hs1
  generalize w1.heap.size = B at hcs hz2 hBR ⊢
  have g0 : w2.cell? ⟨R, 0, none⟩ = some (.int .u32 (s.a.toNat : Int)) := hRg 0 _ rfl
  have g1 : w2.cell? ⟨R, 1, none⟩ = some (.int .u32 (s.b.toNat : Int)) := by simpa using hRg 1 _ rfl
  have g2 : w2.cell? ⟨R, 2, none⟩ = some (.int .u32 (s.c.toNat : Int)) := by simpa using hRg 2 _ rfl
  have g3 : w2.cell? ⟨R, 3, none⟩ = some (.int .u32 (s.d.toNat : Int)) := by simpa using hRg 3 _ rfl
  have g4 : w2.cell? ⟨R, 4, none⟩ = some (.int .u32 (s.e.toNat : Int)) := by simpa using hRg 4 _ rfl
  have g5 : w2.cell? ⟨R, 5, none⟩ = some (.int .u32 (s.f.toNat : Int)) := by simpa using hRg 5 _ rfl
  have g6 : w2.cell? ⟨R, 6, none⟩ = some (.int .u32 (s.g.toNat : Int)) := by simpa using hRg 6 _ rfl
  have g7 : w2.cell? ⟨R, 7, none⟩ = some (.int .u32 (s.h.toNat : Int)) := by simpa using hRg 7 _ rfl
  simp only [Act.put]
  go_quiet (fail)
  go_wp2
  go_quiet (fail)
  go_wp2
  go_name_world w3 hw3
  rw [← hcs0.out] at hcs
  obtain ⟨hcs, hK, hRg, hKl, hTh⟩ : w3.rangeAt B 0 (v32 ws) ∧ Keep R w w3 ∧ w3.rangeAt R 0 (v32 (list s)) ∧ w3.rangeAt 1 0 (v32 kl) ∧ w3.there R 0 8 := by
    rw [← hw3]
    exact ⟨range_drewN (range_drewN hcs), (hK.drewN _).drewN _, range_drewN (range_drewN hRg), range_drewN (range_drewN hKl), there_drewN (there_drewN hTh)⟩
  have HSL : Hid (ws.length = 64) := hsl
  clear hsl hT hk hw hcs0
  clear hw3 g0 g1 g2 g3 g4 g5 g6 g7 hz2
  go_loopw [3, 4, 5, 6, 7, 8, 9, 10, 60] (fun a b c d e f g h i wr => ∃ (t : Nat) (st : St), t ≤ 64 ∧ i = .int .i64 (t : Int) ∧ Hid (rounds ws t s = st) ∧ a = .int .u32 (st.a.toNat : Int) ∧ b = .int .u32 (st.b.toNat : Int) ∧ c = .int .u32 (st.c.toNat : Int) ∧ d = .int .u32 (st.d.toNat : Int) ∧ e = .int .u32 (st.e.toNat : Int) ∧ f = .int .u32 (st.f.toNat : Int) ∧ g = .int .u32 (st.g.toNat : Int) ∧ h = .int .u32 (st.h.toNat : Int) ∧ wr.rangeAt B 0 (v32 ws) ∧ Keep R w wr ∧ wr.rangeAt R 0 (v32 (list s)) ∧ wr.rangeAt 1 0 (v32 kl) ∧ wr.there R 0 8) (fun _ _ _ _ _ _ _ _ i _ => 64 - (intOf i).toNat)
  case atStart => exact ⟨0, s, by omega, rfl, rfl, rfl, rfl, rfl, rfl, rfl, rfl, rfl, rfl, hcs, hK, hRg, hKl, hTh⟩
  case round =>
    clear hcs hK hRg hKl hTh
    obtain ⟨t, ⟨a, b, c, d, e, f, g, hh⟩, ht, rfl, hst, rfl, rfl, rfl, rfl, rfl, rfl, rfl, rfl, hcs, hK, hRg, hKl, hTh⟩ := hrel
    by_cases hlt : t < 64
    · have gk := get32 hKl (i := t) (show t < 64 from hlt)
      have gw := get32 hcs (i := t) (by rw [HSL.out]; exact hlt)
      rw [kl_at t hlt, Nat.zero_add] at gk
      rw [Nat.zero_add] at gw
      have hnx : Hid (rounds ws (t + 1) s = round (k t) (ws.getD t 0) ⟨a, b, c, d, e, f, g, hh⟩) := by
        show round _ _ (rounds ws t s) = _
        rw [hst.out]
      generalize ws.getD t 0 = x at gw hnx
      generalize k t = kk at gk hnx
      simp only
      go_wp2_with fail
      have r6 := ror_any e 6 6 rfl (by decide) (by decide) (by decide)
      have r11 := ror_any e 11 11 rfl (by decide) (by decide) (by decide)
      have r25 := ror_any e 25 25 rfl (by decide) (by decide) (by decide)
      go_quiet (first | exact Calls.quiet_of_same (r6 _) | exact Calls.quiet_of_same (r11 _) | exact Calls.quiet_of_same (r25 _))
      clear r6 r11 r25
      rw [t1_bits kk x a b c d e f g hh]
      obtain ⟨T1, hT1⟩ : ∃ T1, Hid (t1 kk x ⟨a, b, c, d, e, f, g, hh⟩ = T1) := ⟨_, rfl⟩
      rw [hT1.out]
      go_wp2_with fail
      refine (ror_any a 2 2 rfl (by decide) (by decide) (by decide) _).mono ?_
      rintro e' w' ⟨rfl, rfl⟩
      go_wp2_with fail
      refine (ror_any a 13 13 rfl (by decide) (by decide) (by decide) _).mono ?_
      rintro e' w' ⟨rfl, rfl⟩
      go_wp2_with fail
      refine (ror_any a 22 22 rfl (by decide) (by decide) (by decide) _).mono ?_
      rintro e' w' ⟨rfl, rfl⟩
      go_upto_region 8 with fail
      rw [t2_bits a b c d e f g hh]
      obtain ⟨T2, hT2⟩ : ∃ T2, Hid (t2 ⟨a, b, c, d, e, f, g, hh⟩ = T2) := ⟨_, rfl⟩
      rw [hT2.out]
      have hr : Hid (round kk x ⟨a, b, c, d, e, f, g, hh⟩ = ⟨T1 + T2, a, b, c, d + T1, e, f, g⟩) := by
        show round _ _ _ = _
        unfold round
        rw [hT1.out, hT2.out]
      go_wp2_with fail
      go_roundw
      case rel =>
        refine ⟨t + 1, ⟨T1 + T2, a, b, c, d + T1, e, f, g⟩, by omega, by go_num, ?_, by rw [add32], rfl, rfl, rfl, by rw [add32], rfl, rfl, rfl, range_drewN hcs, hK.drewN _, range_drewN hRg, range_drewN hKl, there_drewN hTh⟩
        show rounds ws (t + 1) s = _
        rw [hnx.out, hr.out]
      case measure => simp [intOf]; omega
    · have hlt' : ¬ (t : Int) < 64 := by omega
      go_wp2_with fail
      go_loopw [132] (fun i wr => ∃ j : Nat, j ≤ 8 ∧ i = .int .i64 (j : Int) ∧ wr.rangeAt R 0 (v32 (mix s ⟨a, b, c, d, e, f, g, hh⟩ j)) ∧ Keep R w wr ∧ wr.there R 0 8) (fun i _ => 8 - (intOf i).toNat)
      case atStart => exact ⟨0, by omega, rfl, hRg, hK, hTh⟩
      case round =>
        clear hcs hK hRg hKl hTh
        obtain ⟨j, hj, rfl, hRg, hK, hTh⟩ := hrel
        by_cases hl8 : j < 8
        · obtain ⟨x, y, hix, gy, hmx⟩ := mix_step (wr := wr) s a b c d e f g hh j hl8 hRg
          have hf := (hTh j hl8).2
          rw [Nat.zero_add] at hf
          have hxl := x.isLt
          have hyl := y.isLt
          go_wp2_with fail
          clear hix
          go_region
          go_wp2_with fail
          rw [add32]
          go_roundw
          case rel =>
            refine ⟨j + 1, by omega, by go_num, ?_, ?_, (World.there_drew _ _ _ _).2 (there_set hTh _ _)⟩
            · have := range_set hRg j (.int .u32 ((y + x).toNat : Int))
              rw [Nat.zero_add, v32_set, hmx.out] at this
              exact (World.rangeAt_drew _ _ _ _).2 this
            · exact (hK.set j hl8 _).drewN 1
          case measure => simp [intOf]; omega
        · obtain rfl : j = 8 := by omega
          go_wp2_with fail
          go_end0
          refine ⟨rfl, ?_, hK⟩
          have ht64 : t = 64 := by omega
          have e1 := hst.out
          rw [ht64] at e1
          rw [e1]
          exact hRg
theorem turn_any (R : Nat) (s : St) (bs : List Int) (w : World) (hlen : bs.length = 64) (hb : ∀ z ∈ bs, 0 ≤ z ∧ z < 256) (hR : 2 ≤ R) (hRs : R < w.heap.size)
   (hw : w.rangeAt R 0 (v32 (list s))) (hv : w.rangeAt R 8 (v8 bs)) (hT : w.there R 0 8) (hk : w.rangeAt 1 0 (v32 kl)) :
   Calls Tryd.prog 51 #[.pointer (some ⟨R, 0, none⟩)] w fun e w' => e = .returned (.tuple #[]) ∧ w'.rangeAt R 0 (v32 (list (block s bs))) ∧ Keep R w w' :=
  turn_ws R s (spread bs) w hR hRs (spread_length bs) (spread_any R 8 bs w hlen hb hRs hv) hw hT hk
end Go.Proofs.YtogmkcabndgllaaDoor
