/- digest.Less and the document's: contracts -/
import Derived.Test.YtkadfmbpajbkiaaDoorOrd
namespace Go.Proofs.YtkadfmbpajbkiaaDoor
open Go.RowKit
open Sha
theorem load_cells {w : World} {b off c : Nat} {x : List Int} (h : w.rangeAt b off (v8 x)) : (Extern.Bytes.bytesOf (.slice (some ⟨b, off, none⟩) x.length c)).run Tryd.prog w = .ok ⟨(Lib.bytesOf x).toArray⟩ w := by
  have hl := Lib.run_loadBytesX (P := Tryd.prog) w x ⟨b, off, none⟩ .empty (fun j z hj => by
    rw [Addr.add_mid]
    exact h j _ (by unfold v8; rw [List.getElem?_map, hj]; rfl))
  have he : (⟨ByteArray.empty.data ++ (Lib.bytesOf x).toArray⟩ : ByteArray) = ⟨(Lib.bytesOf x).toArray⟩ := by
    apply ByteArray.ext
    show (#[] : Array UInt8) ++ (Lib.bytesOf x).toArray = (Lib.bytesOf x).toArray
    simp
  rw [he] at hl
  simpa [Extern.Bytes.bytesOf] using hl
theorem run_cmp {w : World} {b off c b2 off2 c2 : Nat} {x y : List Int} (h : w.rangeAt b off (v8 x)) (h2 : w.rangeAt b2 off2 (v8 y)) : (Extern.BytealgCompare.compare #[.slice (some ⟨b, off, none⟩) x.length c, .slice (some ⟨b2, off2, none⟩) y.length c2]).run Tryd.prog w = .ok (.int .i64 (Lib.compareBytes (Lib.bytesOf x) (Lib.bytesOf y))) w := by
  change Sem.run Tryd.prog (do pure (goInt (Extern.BytealgCompare.cmp (← Extern.Bytes.bytesOf (.slice (some ⟨b, off, none⟩) x.length c)) (← Extern.Bytes.bytesOf (.slice (some ⟨b2, off2, none⟩) y.length c2))))) w = _
  simp only [Sem.run_bind, load_cells h, load_cells h2, Result.andThen, Sem.run_pure]
  rw [Lib.cmp_eq]
  rfl
set_option maxHeartbeats 1000000 in
set_option maxRecDepth 20000 in
theorem compare_any (b off c b2 off2 c2 : Nat) (x y : List Int) (w : World) (h : w.rangeAt b off (v8 x)) (h2 : w.rangeAt b2 off2 (v8 y)) :
   Calls Tryd.prog 33 #[.slice (some ⟨b, off, none⟩) x.length c, .slice (some ⟨b2, off2, none⟩) y.length c2] w fun e w' => e = .returned (.int .i64 (Lib.compareBytes (Lib.bytesOf x) (Lib.bytesOf y))) ∧ w' = w := by
  have hr := run_cmp (c := c) (c2 := c2) h h2
  generalize Lib.compareBytes (Lib.bytesOf x) (Lib.bytesOf y) = r at *
  go_enter Tryd.func33, Tryd.ntmps33
  go_wp2
  rw [run_callFunc_extern Tryd.func43 (by kernel_rfl) (by kernel_rfl) (by kernel_rfl) (e := Extern.BytealgCompare.compare) (by kernel_rfl), hr]
  simp only [Result.andThen]
  rw [Oper.upon_value]
  go_wp2
  go_ret
  exact ⟨rfl, rfl⟩
end Go.Proofs.YtkadfmbpajbkiaaDoor
