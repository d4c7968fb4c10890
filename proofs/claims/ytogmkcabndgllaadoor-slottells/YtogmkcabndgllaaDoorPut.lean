/- digest.putWord: a word into four cells. -/
import Derived.Test.YtogmkcabndgllaaDoorSpread
namespace Go.Proofs.YtogmkcabndgllaaDoor
open Go.RowKit
open Sha
namespace Sha
def four (x : Wd) : List Int := [byteOf x 0, byteOf x 1, byteOf x 2, byteOf x 3]
end Sha
set_option maxHeartbeats 400000 in
theorem putWord_any (b off len cap : Nat) (x : Wd) (w : World) (hl : 4 ≤ len) (hl2 : len ≤ 64) (hT : w.there b off 4) :
   Calls Tryd.prog 52 #[.slice (some ⟨b, off, none⟩) len cap, .int .u32 (x.toNat : Int)] w fun e w' => e = .returned (.tuple #[]) ∧ w' = w.setCells b off (v8 (four x)) := by
  have hx := x.isLt
  obtain ⟨u0, h0⟩ := Option.isSome_iff_exists.1 (hT 0 (by omega)).1
  obtain ⟨u1, h1⟩ := Option.isSome_iff_exists.1 (hT 1 (by omega)).1
  obtain ⟨u2, h2⟩ := Option.isSome_iff_exists.1 (hT 2 (by omega)).1
  obtain ⟨u3, h3⟩ := Option.isSome_iff_exists.1 (hT 3 (by omega)).1
  have f0 := (hT 0 (by omega)).2
  have f1 := (hT 1 (by omega)).2
  have f2 := (hT 2 (by omega)).2
  have f3 := (hT 3 (by omega)).2
  rw [Nat.add_zero] at h0 f0
  have hw : ((((w.setCell ⟨b, off, none⟩ (.int .u8 ((x.toNat : Int) / 16777216))).setCell ⟨b, off + 1, none⟩ (.int .u8 ((x.toNat : Int) / 65536 % 256))).setCell ⟨b, off + 2, none⟩ (.int .u8 ((x.toNat : Int) / 256 % 256))).setCell ⟨b, off + 3, none⟩ (.int .u8 ((x.toNat : Int) % 256))) = w.setCells b off (v8 (four x)) := by
    have b0 : (x.toNat : Int) / 16777216 = Sha.byteOf x 0 := by unfold Sha.byteOf; simp; omega
    have b1 : (x.toNat : Int) / 65536 % 256 = Sha.byteOf x 1 := by unfold Sha.byteOf; simp
    have b2 : (x.toNat : Int) / 256 % 256 = Sha.byteOf x 2 := by unfold Sha.byteOf; simp
    have b3 : (x.toNat : Int) % 256 = Sha.byteOf x 3 := by unfold Sha.byteOf; simp
    rw [b0, b1, b2, b3]; rfl
  have HW : Hid (_ = _) := hw
  clear hw
  go_enter Tryd.func52, Tryd.ntmps52
  go_wp2_with fail
  go_end0
  exact ⟨rfl, HW.out⟩
end Go.Proofs.YtogmkcabndgllaaDoor
