/- the document's ror and constant -/
import Derived.Test.YtogmkcabndgllaaDoorSpread
import Derived.Test.YtogmkcabndgllaaDoorTurn
namespace Go.Proofs.YtogmkcabndgllaaDoor
open Go.RowKit
open Sha
namespace Sha
theorem rot32' (x : Wd) (n : Nat) (hn : n ≤ 32) (m : Int) (hm : m = (n : Int)) : bits .or .u32 ((x.toNat : Int) / 2 ^ m.toNat) ((x.toNat : Int) * 2 ^ (32 - m).toNat % 4294967296) = ((rotr x n).toNat : Int) := by
  subst hm
  have e1 : (32 - (n : Int)).toNat = 32 - n := by omega
  have h1 := shl32 x (32 - n)
  have h2 := shr32 x n
  have p1 : ((2 : Int) ^ (32 - n)) = ((2 ^ (32 - n) : Nat) : Int) := by simp
  have p2 : ((2 : Int) ^ n) = ((2 ^ n : Nat) : Int) := by simp
  rw [e1, Int.toNat_natCast, p1, p2, h1, h2, or32, rotr]
end Sha
set_option maxHeartbeats 400000 in
theorem refror_any (x : Wd) (n : Nat) (m : Int) (hm : m = (n : Int)) (hn0 : 0 < n) (hn : n < 32) (w : World) :
   Calls Tryd.prog 47 #[.int .u32 (x.toNat : Int), .int .i64 m] w fun e w' => e = .returned (.int .u32 ((rotr x n).toNat : Int)) ∧ w' = w.drew := by
  have hx := x.isLt
  have er := rot32' x n (by omega) m hm
  have h0 : 0 < m := by omega
  have h1 : m < 32 := by omega
  clear hm
  go_enter Tryd.func47, Tryd.ntmps47
  go_wp2
  go_region
  go_wp2
  go_ret
  exact ⟨by rw [← er]; rfl, rfl⟩
def kLit : Array Value := #[.int .u32 1116352408, .int .u32 1899447441, .int .u32 3049323471, .int .u32 3921009573, .int .u32 961987163, .int .u32 1508970993, .int .u32 2453635748, .int .u32 2870763221, .int .u32 3624381080, .int .u32 310598401, .int .u32 607225278, .int .u32 1426881987, .int .u32 1925078388, .int .u32 2162078206, .int .u32 2614888103, .int .u32 3248222580, .int .u32 3835390401, .int .u32 4022224774, .int .u32 264347078, .int .u32 604807628, .int .u32 770255983, .int .u32 1249150122, .int .u32 1555081692, .int .u32 1996064986, .int .u32 2554220882, .int .u32 2821834349, .int .u32 2952996808, .int .u32 3210313671, .int .u32 3336571891, .int .u32 3584528711, .int .u32 113926993, .int .u32 338241895, .int .u32 666307205, .int .u32 773529912, .int .u32 1294757372, .int .u32 1396182291, .int .u32 1695183700, .int .u32 1986661051, .int .u32 2177026350, .int .u32 2456956037, .int .u32 2730485921, .int .u32 2820302411, .int .u32 3259730800, .int .u32 3345764771, .int .u32 3516065817, .int .u32 3600352804, .int .u32 4094571909, .int .u32 275423344, .int .u32 430227734, .int .u32 506948616, .int .u32 659060556, .int .u32 883997877, .int .u32 958139571, .int .u32 1322822218, .int .u32 1537002063, .int .u32 1747873779, .int .u32 1955562222, .int .u32 2024104815, .int .u32 2227730452, .int .u32 2361852424, .int .u32 2428436474, .int .u32 2756734187, .int .u32 3204031479, .int .u32 3329325298]
set_option maxRecDepth 20000 in
set_option maxHeartbeats 1000000 in
theorem constant_any (t : Nat) (ht : t < 64) (w : World) :
   Calls Tryd.prog 48 #[.int .i64 (t : Int)] w fun e w' => e = .returned (.int .u32 ((k t).toNat : Int)) ∧ Below w.heap.size w w' := by
  have hl2 : (v32 kl).length = 64 := rfl
  have h1c := v32_one kl
  have hkt : Hid (kl.getD t 0 = k t) := kl_at t ht
  have elit : kLit = (v32 kl).toArray := by kernel_rfl
  obtain ⟨cs, hcs⟩ : ∃ cs, Hid (v32 kl = cs) := ⟨_, rfl⟩
  rw [hcs.out] at hl2 h1c elit
  have hsz : cs.toArray.size = 64 := by rw [List.size_toArray, hl2]
  have hi : (Tryd.prog.info? 102).map (·.size) = some cs.toArray.size := by rw [hsz]; exact isz72
  have hT1 : (w.alloc (.cells (Array.replicate 64 (.int .u32 0)) 102)).there w.heap.size 0 cs.toArray.size := by rw [hsz]; exact thr_zero w
  go_enter Tryd.func48, Tryd.ntmps48
  go_upto_region 2 with (refine wpList_store_mid rfl 102 _ _ rfl _ _ cs.toArray rfl (congrArg Value.agg elit) hT1 hi (all_oneCell_toArray h1c) ?_)
  go_name_world w2 hw2
  have F := fresh_store w (Array.replicate 64 (.int .u32 0)) 102 cs (by rw [hl2]; rfl)
  rw [show (w.alloc (.cells (Array.replicate 64 (.int .u32 0)) 102)).setCells w.heap.size 0 cs = w2 from hw2] at F
  obtain ⟨hR, hB, _, _⟩ := F
  clear hw2 hT1 hi hsz h1c hl2 elit
  rw [← hcs.out] at hR
  have hc := get32 hR (i := t) (show t < 64 from ht)
  rw [hkt.out, Nat.zero_add] at hc
  obtain ⟨x, hx⟩ : ∃ x, Hid (k t = x) := ⟨_, rfl⟩
  rw [hx.out] at hc
  clear hR hkt
  simp only [Act.put]
  go_wp2
  go_ret
  exact ⟨by rw [hx.out]; rfl, hB⟩
end Go.Proofs.YtogmkcabndgllaaDoor
