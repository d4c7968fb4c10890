/- request.Make: contracts -/
import Derived.Test.YtinpbnkmpplkiaaDoorRq4
namespace Go.Proofs.YtinpbnkmpplkiaaDoor
open Go.RowKit
open Sha Tal
def noReq : List Value := reqL 0 0 ⟨#[]⟩ zeros16
theorem litReq : (#[.int .i64 0, .int .i64 0, .string ⟨#[]⟩, .int .u8 0, .int .u8 0, .int .u8 0, .int .u8 0, .int .u8 0, .int .u8 0, .int .u8 0, .int .u8 0, .int .u8 0, .int .u8 0, .int .u8 0, .int .u8 0, .int .u8 0, .int .u8 0, .int .u8 0, .int .u8 0] : Array Value) = noReq.toArray := by rfl
theorem iszN : (Tryd.prog.info? 60).map (·.size) = some noReq.toArray.size := by kernel_rfl
theorem reqL_one (c n : Int) (s : ByteArray) (t : List Int) : ∀ v ∈ reqL c n s t, v.oneCell' = true := by
  intro v hv
  simp only [reqL, List.mem_cons] at hv
  rcases hv with rfl | rfl | rfl | hv
  · rfl
  · rfl
  · rfl
  · exact v8_one t v hv
theorem strOf_aux : ∀ (zs : List Int) (r : ByteArray), (zs.foldl (fun r n => r.push (UInt8.ofNat n.toNat)) r).size = r.size + zs.length
  | [], r => by simp
  | z :: zs, r => by rw [List.foldl_cons, strOf_aux zs, ByteArray.size_push, List.length_cons]; omega
theorem strOf_size (zs : List Int) : (strOf zs).size = zs.length := by unfold strOf; rw [strOf_aux]; simp
theorem body_small (c n : Int) (s : ByteArray) (hc : c ≤ 9223372036854775807) (hn : n ≤ 9223372036854775807) (hs : s.size ≤ 90000) : (bodyL c n s).length ≤ 100000 := by
  have h1 := putL_length c (by omega)
  have h2 := putL_length n (by omega)
  have h3 := putL_length s.size (by omega)
  simp only [bodyL, textL, List.length_append, strL_length, List.length_cons, List.length_nil]
  omega
theorem reqL_put {w : World} {b : Nat} {c n : Int} {s : ByteArray} {t u : List Int} (h : w.rangeAt b 0 (reqL c n s t)) (hu : u.length = 16) (hT : w.there b 0 19) : (w.setCells b 3 (v8 u)).rangeAt b 0 (reqL c n s u) := by
  have e : ∀ x, reqL c n s x = [.int .i64 c, .int .i64 n, .string s] ++ v8 x := fun _ => rfl
  rw [e] at h ⊢
  refine range_join (World.rangeAt_setCells_apart (range_left h) b 3 (v8 u) (.inr (.inl (by simp)))) ?_
  exact World.rangeAt_setCells_same w b 3 (v8 u) (there_part hT 3 _ (by rw [v8_length, hu]; omega))
def mayB (c n m : Int) (s : ByteArray) : Prop := 0 ≤ c ∧ c < m ∧ 1 ≤ n ∧ n ≤ 1099511627776 ∧ s.size ≤ 64
theorem tag_any (p : Option Addr) (ds : List (List Int)) (N c n : Int) (s : ByteArray) (t : List Int) (w : World) (h : KeysAt w p ds) (hG : Glob w) (ht : t.length = 16) (hc0 : 0 ≤ c) (hcm : c ≤ 9223372036854775807) (hn : n ≤ 9223372036854775807) (hs : s.size ≤ 64) :
   Calls Tryd.prog 57 #[.pointer p, .int .i64 N, .agg (reqL c n s t).toArray] w fun e w' => e = .returned (.tuple #[.agg (v8 (tagV ds N c n s).1).toArray, .int .i64 (tagV ds N c n s).2]) ∧ Below w.heap.size w w' := by
  unfold tagV
  by_cases hN : N < 0
  · rw [if_pos (.inl hN)]; exact tag_noA p ds N c n s t w h hN
  · by_cases hN2 : 64 < N
    · rw [if_pos (.inr (.inl hN2))]; exact tag_noB p ds N c n s t w h hN hN2
    · by_cases hc : (ds.length : Int) - N ≤ c
      · rw [if_pos (.inr (.inr hc))]; exact tag_noC p ds N c n s t w h hN hN2 hc
      · rw [if_neg (by omega)]
        exact tag_yes p ds N c n s t w h hG ht hN hN2 hc (by omega) hn (by omega) (by rw [strOf_size]; exact body_small c n s hcm hn (by omega))
theorem tagV_length (ds : List (List Int)) (N c n : Int) (s : ByteArray) : (tagV ds N c n s).1.length = 16 := by
  unfold tagV; split
  · rfl
  · exact signOf_length _ _ _
end Go.Proofs.YtinpbnkmpplkiaaDoor
