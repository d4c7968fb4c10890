/- digest.Text: a digest's digits. -/
import Derived.Test.YtkadfmbpajbkiaaDoorSum
import Derived.WalkLawsBesides
import Derived.SliceStrings
namespace Go.Proofs.YtkadfmbpajbkiaaDoor
open Go.RowKit
open Sha
def strOf (zs : List Int) : ByteArray := zs.foldl (fun r n => r.push (UInt8.ofNat n.toNat)) ByteArray.empty
theorem row_str {w : World} {b off cap : Nat} {zs : List Int} (h : w.rangeAt b off (v8 zs)) : (convert 27 9 (.slice (some ⟨b, off, none⟩) zs.length cap)).run Tryd.prog w = .ok (.string (strOf zs)) w := by
  rw [run_convert_bytes_string w 27 9 5 (some ⟨b, off, none⟩) zs.length cap Tryd.underlying27 Tryd.underlying5 Tryd.underlying9]
  have := run_loadCells_list (P := Tryd.prog) w ⟨b, off, none⟩ (v8 zs) (fun j v hv => by rw [Addr.add_mid]; exact h j v hv)
  rw [v8_length] at this
  exact run_bytesToString w ⟨b, off, none⟩ zs.length cap zs this
def dg : List Int := [48, 49, 50, 51, 52, 53, 54, 55, 56, 57, 97, 98, 99, 100, 101, 102]
def hex2 (z : Int) : List Int := [dg.getD (z / 16).toNat 0, dg.getD (z % 16).toNat 0]
def hex (zs : List Int) : List Int := zs.flatMap hex2
theorem make64 (w : World) : (Instr.makeSlice 27 (.int .i64 0) (.int .i64 64)).run Tryd.prog w = .ok (.slice (some ⟨w.heap.size, 0, none⟩) 0 64) (w.alloc (.cells (Array.replicate 64 (.int .u8 0)) 5)) := by
  kernel_rfl
theorem idx32 (d : List Int) (hd : d.length = 32) (k : Nat) (hk : k < 32) (w : World) : (Instr.index 24 (.agg (v8 d).toArray) (.int .i64 (k : Int))).run Tryd.prog w = .ok (.int .u8 (d.getD k 0)) w := by
  have h1 : (sizeOf 5).run Tryd.prog w = .ok 1 w := run_size isz8 w
  have h3 : (isAgg 5).run Tryd.prog w = .ok false w := by kernel_rfl
  have h4 : (v8 d).toArray[k]? = some (.int .u8 (d.getD k 0)) := by
    have hk' : k < d.length := by omega
    simp [v8, List.getElem?_eq_getElem hk']
  have h2 : (part 5 (v8 d).toArray k).run Tryd.prog w = .ok (.int .u8 (d.getD k 0)) w := by
    simp only [part, Sem.run_bind, h3, Result.andThen_ok, h4]
    rfl
  simp only [Instr.index, asIntOf, Sem.run_bind, Sem.run_pure, Result.andThen_ok, run_underlying Tryd.underlying24]
  rw [if_pos (by omega)]
  simp [h1, h2]
theorem dig_nat : ∀ (n : Nat), n < 16 → ∀ (w : World), (Instr.index 9 (.string { data := #[48, 49, 50, 51, 52, 53, 54, 55, 56, 57, 97, 98, 99, 100, 101, 102] }) (.int .u8 (n : Int))).run Tryd.prog w = .ok (.int .u8 (dg.getD n 0)) w
  | 0, _, _ => by kernel_rfl
  | 1, _, _ => by kernel_rfl
  | 2, _, _ => by kernel_rfl
  | 3, _, _ => by kernel_rfl
  | 4, _, _ => by kernel_rfl
  | 5, _, _ => by kernel_rfl
  | 6, _, _ => by kernel_rfl
  | 7, _, _ => by kernel_rfl
  | 8, _, _ => by kernel_rfl
  | 9, _, _ => by kernel_rfl
  | 10, _, _ => by kernel_rfl
  | 11, _, _ => by kernel_rfl
  | 12, _, _ => by kernel_rfl
  | 13, _, _ => by kernel_rfl
  | 14, _, _ => by kernel_rfl
  | 15, _, _ => by kernel_rfl
  | n + 16, h, _ => absurd h (by omega)
theorem dig_at (i : Int) (h0 : 0 ≤ i) (h1 : i < 16) (w : World) : (Instr.index 9 (.string { data := #[48, 49, 50, 51, 52, 53, 54, 55, 56, 57, 97, 98, 99, 100, 101, 102] }) (.int .u8 i)).run Tryd.prog w = .ok (.int .u8 (dg.getD i.toNat 0)) w := by
  obtain ⟨n, rfl⟩ := Int.eq_ofNat_of_zero_le h0
  exact dig_nat n (by omega) w
theorem low4 (z : Int) (h0 : 0 ≤ z) (h1 : z < 256) : bits .and .u8 z 15 = z % 16 := by
  obtain ⟨n, rfl⟩ := Int.eq_ofNat_of_zero_le h0
  show IntKind.u8.wrap ((BitVec.ofInt 8 (n : Int) &&& BitVec.ofInt 8 15).toNat : Int) = _
  have h2 : (BitVec.ofInt 8 15).toNat = 15 := by decide
  rw [BitVec.toNat_and, h2, BitVec.ofInt_natCast, BitVec.toNat_ofNat, Nat.mod_eq_of_lt (show n < 2 ^ 8 by omega)]
  have h3 : n &&& 15 = n % 16 := Nat.and_two_pow_sub_one_eq_mod _ 4
  rw [h3, IntKind.wrap_u8]; omega
theorem dg_ok (i : Nat) : 0 ≤ dg.getD i 0 ∧ dg.getD i 0 < 256 := byte_ok (by decide) i
theorem hex_snoc (zs : List Int) (z : Int) : hex (zs ++ [z]) = hex zs ++ hex2 z := by simp [hex]
theorem hex_length (zs : List Int) : (hex zs).length = 2 * zs.length := by
  induction zs with
  | nil => rfl
  | cons z r ih =>
    have : hex (z :: r) = hex2 z ++ hex r := by simp [hex]
    rw [this, List.length_append, ih]; simp [hex2]; omega
set_option maxRecDepth 20000 in
set_option maxHeartbeats 2000000 in
theorem text_any (d : List Int) (w : World) (hd : d.length = 32) (hb : ∀ z ∈ d, 0 ≤ z ∧ z < 256) :
   Calls Tryd.prog 19 #[.agg (v8 d).toArray] w fun e w' => e = .returned (.string (strOf (hex d))) ∧ Below w.heap.size w w' := by
  have hl : (v8 d).length = 32 := by rw [v8_length, hd]
  have hi : (Tryd.prog.info? 24).map (·.size) = some (v8 d).length := by rw [hl]; exact isz24
  have h1c := v8_one d
  obtain ⟨cs, hcs⟩ : ∃ cs, Hid (v8 d = cs) := ⟨_, rfl⟩
  rw [hcs.out] at hl hi h1c ⊢
  have hsz : cs.toArray.size = 32 := by rw [List.size_toArray, hl]
  go_enter Tryd.func19, Tryd.ntmps19
  have hmk := make64
  go_upto_region 2 with fail
  go_name_world w1 hw1
  obtain ⟨hB1, hZ, hT, hC, hs1⟩ : Below w.heap.size w w1 ∧ w1.rangeAt (w.heap.size + 1) 0 (v8 (List.replicate 64 (0 : Int))) ∧ w1.there (w.heap.size + 1) 0 64 ∧ w1.rangeAt w.heap.size 0 cs ∧ w1.heap.size = w.heap.size + 2 := by
    have q := new_bytes (w.alloc (.cells cs.toArray 24)) 64 5
    have q2 := World.rangeAt_alloc (range_new w cs.toArray 24) (.cells (Array.replicate 64 (.int .u8 0)) 5)
    have es : (w.alloc (.cells cs.toArray 24)).heap.size = w.heap.size + 1 := by simp
    have hB : Below w.heap.size w ((w.alloc (.cells cs.toArray 24)).alloc (.cells (Array.replicate 64 (.int .u8 0)) 5)) := ((Below.refl _ _).alloc (Nat.le_refl _) _).alloc (by simp) _
    have hs : ((w.alloc (.cells cs.toArray 24)).alloc (.cells (Array.replicate 64 (.int .u8 0)) 5)).heap.size = w.heap.size + 2 := by simp
    rw [es] at q
    rw [show (w.alloc (.cells cs.toArray 24)).alloc (.cells (Array.replicate 64 (.int .u8 0)) 5) = w1 from hw1] at q q2 hB hs
    exact ⟨hB, q.1, q.2, by simpa using q2, hs⟩
  clear hw1 hmk
  go_wp2_with (refine wpList_load_mid rfl 24 _ rfl _ _ rfl cs _ hC Tryd.underlying24 rfl hi ?_)
  clear hi hC h1c hl hsz
  rw [← hcs.out]
  go_loopw [3, 8] (fun o i wr => ∃ k : Nat, k ≤ 32 ∧ i = .int .i64 (k : Int) ∧ o = .slice (some ⟨w.heap.size + 1, 0, none⟩) (2 * k) 64 ∧ wr.rangeAt (w.heap.size + 1) 0 (v8 (hex (d.take k) ++ List.replicate (64 - 2 * k) (0 : Int))) ∧ wr.there (w.heap.size + 1) 0 64 ∧ Below w.heap.size w wr ∧ w.heap.size + 2 ≤ wr.heap.size) (fun _ i _ => 32 - (intOf i).toNat)
  case atStart => exact ⟨0, by omega, rfl, rfl, hZ, hT, hB1, by omega⟩
  case round =>
    clear hZ hT hB1 hs1
    obtain ⟨k, hk, rfl, rfl, hZ, hT, hB, hsz⟩ := hrel
    by_cases hlt : k < 32
    · have hix := idx32 d hd k hlt
      have hzb := byte_ok hb k
      obtain ⟨z, hz⟩ : ∃ z, Hid (d.getD k 0 = z) := ⟨_, rfl⟩
      have hix' : ∀ w, (Instr.index 24 (.agg (v8 d).toArray) (.int .i64 (k : Int))).run Tryd.prog w = .ok (.int .u8 z) w := fun w => by rw [hix w, hz.out]
      rw [hz.out] at hzb
      clear hix
      go_wp2_with fail
      clear hix'
      have e15 := low4 z hzb.1 hzb.2
      obtain ⟨p, hp⟩ : ∃ p, p = z / 16 := ⟨_, rfl⟩
      obtain ⟨q, hq⟩ : ∃ q, q = z % 16 := ⟨_, rfl⟩
      have ix1 := dig_at p (by omega) (by omega)
      have ix2 := dig_at q (by omega) (by omega)
      have HX2 : Hid (hex2 z = [dg.getD p.toNat 0, dg.getD q.toNat 0]) := by rw [hp, hq]; rfl
      generalize dg.getD p.toNat 0 = d1 at ix1 HX2
      generalize dg.getD q.toNat 0 = d2 at ix2 HX2
      rw [← hq] at e15
      have e16 : z / 16 = p := hp.symm
      have hT' := World.there_alloc hT (.cells #[.int .u8 d1, .int .u8 d2] 5)
      obtain ⟨u0, ha0⟩ := Option.isSome_iff_exists.1 (hT' (2 * k) (by omega)).1
      obtain ⟨u1, ha1⟩ := Option.isSome_iff_exists.1 (hT' (2 * k + 1) (by omega)).1
      have fa0 := (hT' (2 * k) (by omega)).2
      have fa1 := (hT' (2 * k + 1) (by omega)).2
      rw [Nat.zero_add] at ha0 ha1 fa0 fa1
      have h62 : 2 * k ≤ 62 := by omega
      clear hT'
      clear hp hq
      go_region
      go_wp2_with fail
      go_roundw
      case rel =>
        have hD := World.rangeAt_alloc hZ (.cells #[.int .u8 d1, .int .u8 d2] 5)
        have hT2 := World.there_alloc hT (.cells #[.int .u8 d1, .int .u8 d2] 5)
        have hB2 : Below w.heap.size w (wr.alloc (.cells #[.int .u8 d1, .int .u8 d2] 5)) := hB.alloc (by omega) _
        have hs2 : (wr.alloc (.cells #[.int .u8 d1, .int .u8 d2] 5)).heap.size = wr.heap.size + 1 := by simp
        generalize wr.alloc (.cells #[.int .u8 d1, .int .u8 d2] 5) = wa at *
        refine ⟨k + 1, by omega, by go_num, by rw [show 2 * (k + 1) = 2 * k + 2 by omega], ?_, (World.there_drew _ _ _ _).2 (there_set (there_set hT2 _ _) _ _), ((hB2.setCell (p := ⟨w.heap.size + 1, 2 * k, none⟩) (by simp) _).setCell (p := ⟨w.heap.size + 1, 2 * k + 1, none⟩) (by simp) _).drew, by simp; omega⟩
        have hlk : k < d.length := by omega
        have et : d.take (k + 1) = d.take k ++ [z] := by
          rw [List.take_succ_eq_append_getElem hlk, ← hz.out, List.getD_eq_getElem?_getD, List.getElem?_eq_getElem hlk]; rfl
        rw [et, hex_snoc, HX2.out]
        have hol : (hex (d.take k)).length = 2 * k := by rw [hex_length, List.length_take]; omega
        have e0 : List.replicate (64 - 2 * k) (0 : Int) = List.replicate 2 (0 : Int) ++ List.replicate (64 - 2 * (k + 1)) (0 : Int) := by
          rw [List.replicate_append_replicate]; congr 1; omega
        rw [e0, ← List.append_assoc, v8_append, v8_append] at hD
        have := range_fill (vs := v8 [d1, d2]) hD (by simp) (by
          rw [v8_length, v8_length, hol, Nat.zero_add]
          have := there_part hT2 (2 * k) 2 (by omega)
          rwa [Nat.zero_add] at this)
        rw [v8_length, hol, Nat.zero_add, ← v8_append, ← v8_append] at this
        exact (World.rangeAt_drew _ _ _ _).2 this
      case measure => simp [intOf]; omega
    · obtain rfl : k = 32 := by omega
      have hZ2 : wr.rangeAt (w.heap.size + 1) 0 (v8 (hex d)) := by
        rw [List.take_of_length_le (by omega)] at hZ
        simpa using hZ
      have hcv := row_str (cap := 64) hZ2
      have hlx : (hex d).length = 64 := by rw [hex_length, hd]
      rw [hlx] at hcv
      obtain ⟨S, hS⟩ : ∃ S, Hid (strOf (hex d) = S) := ⟨_, rfl⟩
      rw [hS.out] at hcv
      go_wp2_with fail
      go_ret
      exact ⟨by rw [hS.out]; rfl, hB⟩
end Go.Proofs.YtkadfmbpajbkiaaDoor
