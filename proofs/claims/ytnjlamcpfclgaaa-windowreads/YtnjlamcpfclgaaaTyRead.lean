/- slices.Clone over bytes, and Read. -/
import Derived.Test.YtnjlamcpfclgaaaTyNum
namespace Go.Proofs.Ytnjlamcpfclgaaa.Ty
open Go.RowKit
open Tal
set_option maxHeartbeats 800000 in
theorem clone_any (a : Option Addr) (cap : Nat) (zs : List Int) (w : World) (h : RowAt w a zs) (hm : zs.length ≤ 549755813888) :
    Calls Try.prog 40 #[.slice a zs.length cap] w fun e w' => ∃ v, e = .returned v ∧ Mine w' w.heap.size v zs ∧ Below w.heap.size w w' := by
  obtain ⟨i0, hi, hz0, hz1, hz2⟩ := info_parts info5
  cases a with
  | none =>
    obtain rfl := h.none_nil
    have hn := fun w => Lib.run_eql_slice_nil (P := Try.prog) w 38 5 none 0 cap 0 0 Try.underlying38
    go_enter Try.func40, Try.ntmps40
    go_wp2
    go_ret
    exact ⟨_, rfl, ⟨World.ownsRow_nil _ _ _ _, by simp⟩, Below.refl _ _⟩
  | some x =>
    have hn := fun w => Lib.run_eql_slice_nil (P := Try.prog) w 38 5 (some x) zs.length cap 0 0 Try.underlying38
    go_enter Try.func40, Try.ntmps40
    go_wp2_with (at_builtin; refine wpList_append_own_src _ rfl _ _ 38 38 rfl w.heap.size 5 i0 (.int .u8 0) 1 1 Try.underlying38 hi hz0 hz1 hz2 rfl _ 0 [] rfl (World.ownsRow_made w #[] 0 (Nat.le_refl _) (by simp) (by simp)) (.slice (some x) zs.length cap) zs.length (zs.map (Value.int .u8)) rfl ((h.below ((Below.refl _ _).alloc (Nat.le_refl _) _)).src cap) ?c1 ?c2 ?c3 ?_)
    case c1 => unfold maxLen; omega
    case c2 => omega
    case c3 => simp
    intro v' w1 hown hgrow
    have hb1 : Below w.heap.size w w1 := ((Below.refl _ _).alloc (Nat.le_refl _) _).grown hgrow (by simp) (fun k hk => by simp [Value.ownBlock] at hk; omega)
    go_wp2
    go_ret
    exact ⟨_, rfl, ⟨by simpa using hown, h.2.1⟩, hb1⟩

set_option maxHeartbeats 800000 in
theorem read_any (a : Option Addr) (cap : Nat) (zs : List Int) (w : World) (h : RowAt w a zs) (hm : zs.length ≤ 549755813888) :
    Calls Try.prog 20 #[.slice a zs.length cap] w fun e w' => ∃ R, e = .returned (.pointer (some ⟨R, 0, none⟩)) ∧ w.heap.size ≤ R ∧ St w' R zs 0 ∧ Below w.heap.size w w' := by
  go_enter Try.func20, Try.ntmps20
  go_wp2_with fail
  refine (clone_any a cap zs w h hm).mono ?_
  rintro e w1 ⟨v, rfl, hmine, hb⟩
  obtain ⟨a', cap', rfl, hc1, hc2, hr⟩ := hmine.rowAt (by unfold maxLen; omega)
  have hblk : ∀ x, a' = some x → x.block < w1.heap.size := fun x hx => (hmine.1.lt x.block (by simp [hx, Value.ownBlock])).2
  have hb2 : Below w1.heap.size w1 (w1.alloc (.cells #[.slice a' zs.length cap', .bool true, .int .i64 0] 66)) := (Below.refl _ _).alloc (Nat.le_refl _) _
  have hSt : St (w1.alloc (.cells #[.slice a' zs.length cap', .bool true, .int .i64 0] 66)) w1.heap.size zs 0 := by
    have cs : ∀ j, (w1.alloc (.cells #[.slice a' zs.length cap', .bool true, .int .i64 0] 66)).cell? ⟨w1.heap.size, j, none⟩ = (#[.slice a' zs.length cap', .bool true, .int .i64 0] : Array Value)[j]? := fun j => World.cell?_alloc_at _ _ _ _ rfl
    have fs : ∀ j, (w1.alloc (.cells #[.slice a' zs.length cap', .bool true, .int .i64 0] 66)).frozen? ⟨w1.heap.size, j, none⟩ = false := fun j => World.frozen?_alloc_at _ _ _ _ rfl
    exact ⟨⟨by simp, ⟨a', zs.length, cap', cs 0⟩, cs 1, cs 2, fs 0, fs 1, fs 2⟩, fun _ => ⟨a', cap', cs 0, hc1, hc2, hr.below hb2, hblk⟩⟩
  go_wp2_with fail
  go_ret
  exact ⟨_, rfl, hb.size, hSt, hb.trans (hb2.mono hb.size)⟩
end Go.Proofs.Ytnjlamcpfclgaaa.Ty
