/- tally.PutText. -/
import Derived.Test.YtogmkcabndgllaaDoorTPut
namespace Go.Proofs.YtogmkcabndgllaaDoor
open Go.RowKit
open Tal
theorem nil_row (w : World) : RowAt w none [] := ⟨by simp, by simp, Or.inl rfl⟩
/-- a string's bytes as numbers -/
def strL (s : ByteArray) : List Int := s.data.toList.map fun b => (b.toNat : Int)
theorem strL_length (s : ByteArray) : (strL s).length = s.size := by unfold strL; rw [List.length_map, Array.length_toList]; rfl
theorem strL_byte (s : ByteArray) : ∀ z ∈ strL s, 0 ≤ z ∧ z < 256 := by
  intro z hz
  obtain ⟨b, _, rfl⟩ := List.mem_map.1 hz
  have := b.toNat_lt
  omega
theorem str_src (s : ByteArray) (w : World) : Src Tryd.prog 1 9 (.string s) s.size ((strL s).map (Value.int .u8)) w := by
  have := Src.ofString w (P := Tryd.prog) Tryd.underlying9 s
  have e : (strL s).map (Value.int .u8) = byteCells s := by unfold strL byteCells; rw [List.map_map]; rfl
  rw [e]; exact this
/-- what PutText lays behind -/
def textL (s : ByteArray) : List Int := putL s.size ++ strL s
set_option maxRecDepth 20000 in
set_option maxHeartbeats 800000 in
theorem putText_any (a : Option Addr) (cap : Nat) (zs : List Int) (s : ByteArray) (w : World) (h : RowAt w a zs) (hm : zs.length ≤ 1099511627) (hs : s.size ≤ 1099511627) :
    Calls Tryd.prog 60 #[.slice a zs.length cap, .string s] w fun e w' => ∃ v, e = .returned v ∧ Mine w' w.heap.size v (zs ++ textL s) ∧ Below w.heap.size w w' := by
  obtain ⟨i0, hi, hz0, hz1, hz2⟩ := info_parts info8
  have hpl := putL_length (s.size : Int) (by omega)
  have hpb := putL_byte (s.size : Int) (by omega)
  have cs := fun w => size_any (s.size : Int) w (by omega)
  have cp := fun w => put_any none 0 [] (s.size : Int) w (nil_row w) (by simp) (by omega)
  rw [List.nil_append] at cp
  have HT : Hid (textL s = putL s.size ++ strL s) := rfl
  have HSL : Hid ((strL s).length = s.size) := strL_length s
  generalize putL (s.size : Int) = ps at *
  go_enter Tryd.func60, Tryd.ntmps60
  go_wp2_with fail
  refine (cs _).mono ?_
  rintro e w1 ⟨rfl, rfl⟩
  have cr := room_any a cap zs (ps.length + s.size) w1 h (by omega)
  have ec : ((ps.length + s.size : Nat) : Int) = (ps.length : Int) + (s.size : Int) := by omega
  rw [ec] at cr
  clear ec
  go_wp2_with fail
  refine cr.mono ?_
  rintro e w2 ⟨v, rfl, hmine, hb⟩
  clear cr cs
  go_wp2_with fail
  refine (cp _).mono ?_
  rintro e w3 ⟨v3, rfl, hm3, hb3⟩
  clear cp
  obtain ⟨a3, cap3, rfl, hc31, hc32, hr3⟩ := hm3.rowAt (by unfold maxLen; omega)
  have hmine3 := hmine.below hb3
  have hb3' : Below w1.heap.size w1 w3 := hb.trans (hb3.mono hb.size)
  go_wp2_with (at_builtin; refine wpList_append_own_src _ rfl _ _ 80 80 rfl w1.heap.size 5 i0 (.int .u8 0) 1 1 Tryd.underlying80 hi hz0 hz1 hz2 rfl _ zs.length _ rfl hmine3.1 _ ps.length _ rfl (hr3.src cap3) ?c1 ?c2 ?c3 ?_)
  case c1 => unfold maxLen; omega
  case c2 => omega
  case c3 => exact hb3'.size
  intro v4 w4 hown4 hgrow4
  have hb4 := below_grown hb3' hb3'.size hmine3.1 hgrow4
  go_wp2_with (at_builtin; refine wpList_append_own_src _ rfl _ _ 80 9 rfl w1.heap.size 5 i0 (.int .u8 0) 1 1 Tryd.underlying80 hi hz0 hz1 hz2 rfl _ (zs.length + ps.length) _ rfl hown4 _ s.size _ rfl (str_src s _) ?e1 ?e2 ?e3 ?_)
  case e1 => unfold maxLen; omega
  case e2 => omega
  case e3 => exact hb4.size
  intro v5 w5 hown5 hgrow5
  have hb5 := below_grown hb4 hb4.size hown4 hgrow5
  have hM : Mine w5 w1.heap.size v5 (zs ++ textL s) := by
    rw [HT.out]
    refine Mine.mk' _ hown5 ?_ ?_ (fun z hz => ?_)
    · simp only [List.length_append, HSL.out]; omega
    · simp [v8]
    · simp only [List.mem_append] at hz
      rcases hz with hz | hz | hz
      · exact h.2.1 z hz
      · exact hpb z hz
      · exact strL_byte s z hz
  clear hown5 hgrow5 hown4 hgrow4
  go_wp2_with fail
  go_ret
  exact ⟨_, rfl, hM, hb5⟩
end Go.Proofs.YtogmkcabndgllaaDoor
