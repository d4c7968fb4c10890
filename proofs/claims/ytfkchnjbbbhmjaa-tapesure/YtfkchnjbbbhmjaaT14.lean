/- strings out of bytes: one behind the other, beginnings -/
import Derived.Test.YtfkchnjbbbhmjaaT13
namespace Go.Proofs.Ytfkchnjbbbhmjaa
open Go.RowKit
theorem strOf_go (zs : List Int) (r : ByteArray) : (zs.foldl (fun r n => r.push (UInt8.ofNat n.toNat)) r).data.toList = r.data.toList ++ zs.map (fun n => UInt8.ofNat n.toNat) := by
  induction zs generalizing r with
  | nil => simp
  | cons z zs ih =>
    rw [List.foldl_cons, ih]
    simp [ByteArray.push]
theorem strOf_data (zs : List Int) : (strOf zs).data.toList = zs.map (fun n => UInt8.ofNat n.toNat) := by
  unfold strOf
  rw [strOf_go]
  rfl
theorem str_ext {a b : ByteArray} (h : a.data.toList = b.data.toList) : a = b := by
  cases a; cases b
  simp only [ByteArray.mk.injEq]
  exact Array.toList_inj.1 h
theorem strOf_append (a b : List Int) : strOf (a ++ b) = strOf a ++ strOf b := by
  apply str_ext
  rw [ByteArray.data_append, Array.toList_append, strOf_data, strOf_data, strOf_data, List.map_append]
theorem strOf_size (zs : List Int) : (strOf zs).size = zs.length := by
  have := congrArg List.length (strOf_data zs)
  simpa using this
theorem strOf_take (zs : List Int) (n : Nat) : (strOf zs).extract 0 n = strOf (zs.take n) := by
  apply str_ext
  rw [ByteArray.data_extract, Array.toList_extract, strOf_data, strOf_data]
  simp [List.extract_eq_take_drop, List.map_take]
set_option maxRecDepth 100000 in
set_option maxHeartbeats 2000000 in
theorem sHasPrefix_any (s t : ByteArray) (w : World) (hl : t.size ≤ s.size) (h : s.extract 0 t.size = t) :
    Calls Try.prog 53 #[.string s, .string t] w fun e w' => e = .returned (.bool true) ∧ w' = w := by
  have h1 : ¬ (s.size : Int) < (t.size : Int) := by omega
  have h2 : (t.size : Int) ≤ (s.size : Int) := by omega
  go_enter Try.func53, Try.ntmps53
  go_wp2_with fail
  go_ret
  exact ⟨rfl, rfl⟩
set_option maxRecDepth 100000 in
set_option maxHeartbeats 2000000 in
theorem hasPrefix_any (s t : ByteArray) (w : World) (hl : t.size ≤ s.size) (h : s.extract 0 t.size = t) :
    Calls Try.prog 20 #[.string s, .string t] w fun e w' => e = .returned (.bool true) ∧ w' = w := by
  have c1 := sHasPrefix_any s t w hl h
  go_enter Try.func20, Try.ntmps20
  go_wp2_with fail
  refine c1.mono ?_
  rintro e w' ⟨rfl, hw⟩
  obtain rfl := hw.symm
  clear c1 hw
  go_wp2_with fail
  go_ret
  exact ⟨rfl, rfl⟩
theorem hasPrefix_of (zs : List Int) (n : Nat) (w : World) :
    Calls Try.prog 20 #[.string (strOf zs), .string (strOf (zs.take n))] w fun e w' => e = .returned (.bool true) ∧ w' = w := by
  refine hasPrefix_any _ _ w (by rw [strOf_size, strOf_size, List.length_take]; omega) ?_
  rw [strOf_size, strOf_take, List.length_take, ← List.take_take, List.take_length]
end Go.Proofs.Ytfkchnjbbbhmjaa
