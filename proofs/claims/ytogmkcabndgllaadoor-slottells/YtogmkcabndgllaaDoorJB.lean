/- seal.blockOf: a key, filled up to a block; the closure of seal.Mac: the digest of the key's block, xored, and the parts; seal.Mac: the mac of parts; the document's Bytes: a digest's bytes, by themselves; the document's pad: a key's block, each byte xored; the document's Mac; requests: their fields, their body, whether they may be; seal.Keys: Len, Sign, Check: contracts; requests: the body, the program's and the document's; seal.Derive: the contract; seal.Keys: Check: the contract; the document's Keys: key, Sign, Check, Derive: contracts; requests: the tag, and the law's keys; requests: the law's keys; request.Make: contracts; request.Good: contracts; Two requests, compared.; raddlelaw06.lives: the chapter's example holds; a request by value; what is asked for, by value; rows of requests; batches by value; request.Put: the contract; the document's Put of a request: the contract; batches: their bytes; raddlelaw07.Light: are batches not more than are looked at?; batches: their bytes; batch.Put, the document's Put; batch.Digest, the document's; the document's Plain and Same of batches; the document's Same of batches; batch.Digest, the document's Digest; A region that draws its order where two operations are ready at once: both ways.; votes, signs, certs, slots: their cells; builds, boxes: what slot's walks lean on -/
import Derived.Test.YtogmkcabndgllaaDoorBase
import Derived.Test.YtogmkcabndgllaaDoorOwn
import Derived.Laws.MakeOwn
import Derived.Test.YtogmkcabndgllaaDoorPadded
import Derived.Test.YtogmkcabndgllaaDoorRefSum
import Derived.Test.YtogmkcabndgllaaDoorTRef
import Derived.Test.YtogmkcabndgllaaDoorHeld
import Derived.Test.YtogmkcabndgllaaDoorTText
import Derived.Test.YtogmkcabndgllaaDoorEql
import Derived.Laws.IdiomStrings
import Derived.Lib.SlBytesConst
import Derived.Test.YtogmkcabndgllaaDoorFrameT
import Derived.OpenShut
import Derived.Deep.Slices
import Derived.Laws.StructEq
import Derived.Laws.ResultCell
import Derived.Deep.MidRow
namespace Go.Proofs.YtogmkcabndgllaaDoor
open Go.RowKit
open Sha
namespace Sha
/-- a key's bytes, by its digest where it is too long; filled with zeros -/
def macKey (zs : List Int) : List Int := if 64 < zs.length then sha zs else zs
def macBlock (zs : List Int) : List Int := macKey zs ++ List.replicate (64 - (macKey zs).length) 0
end Sha
theorem isz52 : (Tryd.prog.info? 93).map (·.size) = some 64 := by kernel_rfl
theorem macKey_len (zs : List Int) : (macKey zs).length ≤ 64 := by
  unfold macKey
  split
  · rw [sha_length]; omega
  · omega
theorem macKey_ok (zs : List Int) (h : ∀ z ∈ zs, 0 ≤ z ∧ z < 256) : ∀ z ∈ macKey zs, 0 ≤ z ∧ z < 256 := by
  unfold macKey
  split
  · exact sha_ok zs
  · exact h
theorem macBlock_len (zs : List Int) : (macBlock zs).length = 64 := by
  have := macKey_len zs
  simp [macBlock]; omega
theorem new64 (w : World) : (w.alloc (.cells (Array.replicate 64 (.int .u8 0)) 93)).rangeAt w.heap.size 0 (v8 (List.replicate 64 (0 : Int))) ∧ (w.alloc (.cells (Array.replicate 64 (.int .u8 0)) 93)).there w.heap.size 0 64 := new_bytes w 64 93
/-- copy into the head of an array -/
theorem copy_head (w : World) (B : Nat) (a : Option Addr) (cap : Nat) (ks : List Int) (hl : ks.length ≤ 64) (h : RowAt w a ks) (hT : w.there B 0 64) (hz : w.rangeAt B 0 (v8 (List.replicate 64 (0 : Int)))) :
    ∃ w', (Builtin.copy_ #[80, 80] 3 #[.slice (some ⟨B, 0, none⟩) 64 64, .slice a ks.length cap]).run Tryd.prog w = .ok (goInt ks.length) w' ∧ w'.rangeAt B 0 (v8 (ks ++ List.replicate (64 - ks.length) (0 : Int))) ∧ w' = w.setCells B 0 (v8 ks) := by
  rcases h.2.2 with rfl | ⟨b, off, rfl, hb, hr⟩
  · exact ⟨w, run_copy_none (P := Tryd.prog) w 80 80 3 5 _ a 64 64 0 cap Tryd.underlying80 isz8 rfl, by simpa using hz, rfl⟩
  · refine ⟨w.setCells B 0 (v8 ks), ?_, ?_, rfl⟩
    · have := run_copy_cells (P := Tryd.prog) w 80 80 3 5 B 0 64 64 ⟨b, off, none⟩ ks.length cap (v8 ks) Tryd.underlying80 isz8 (by rw [v8_length]; exact (Nat.min_eq_left hl).symm) (fun j v hv => by rw [Addr.add_mid]; exact hr j v hv) (fun j hj => by rw [v8_length] at hj; exact (hT j (by omega)).1) (fun j hj => by rw [v8_length] at hj; exact (hT j (by omega)).2) (v8_one _)
      rw [v8_length] at this
      exact this
    · have e0 : List.replicate 64 (0 : Int) = [] ++ List.replicate ks.length (0 : Int) ++ List.replicate (64 - ks.length) (0 : Int) := by
        rw [List.nil_append, List.replicate_append_replicate]; congr 1; omega
      rw [e0, v8_append, v8_append] at hz
      have := range_fill (vs := v8 ks) hz (by simp) (by
        rw [v8_length]
        have := there_part hT 0 ks.length (by omega)
        simpa [v8] using this)
      rw [← v8_append, ← v8_append] at this
      simpa [v8] using this
end Go.Proofs.YtogmkcabndgllaaDoor
namespace Go.Proofs.YtogmkcabndgllaaDoor
open Go.RowKit
open Sha
def xorB (x z : Int) : Int := bits .xor .u8 z x
theorem xorB_ok (x z : Int) : 0 ≤ xorB x z ∧ xorB x z < 256 := by
  unfold xorB
  show 0 ≤ IntKind.u8.wrap _ ∧ IntKind.u8.wrap _ < 256
  rw [IntKind.wrap_u8]; omega
def xorL (x : Int) (zs : List Int) : List Int := zs.map (xorB x)
theorem xorL_ok (x : Int) (zs : List Int) : ∀ z ∈ xorL x zs, 0 ≤ z ∧ z < 256 := fun z hz => by
  obtain ⟨u, _, rfl⟩ := List.mem_map.1 hz; exact xorB_ok x u
theorem xorL_len (x : Int) (zs : List Int) : (xorL x zs).length = zs.length := by simp [xorL]
theorem parts_src {w : World} {a : Option Addr} {ps : List Part} (h : PartsAt w a ps) (cap : Nat) : Src Tryd.prog 1 92 (.slice a ps.length cap) ps.length (ps.map Part.val) w := by
  have one : ∀ u ∈ ps.map Part.val, u.oneCell' = true := fun u hu => by
    obtain ⟨p, _, rfl⟩ := List.mem_map.1 hu; rfl
  cases a with
  | none =>
    have : ps = [] := by
      rcases h.2.2 with q | ⟨b, off, hx, _⟩
      · exact q
      · cases hx
    subst this
    exact Src.ofNil w Tryd.underlying92 cap
  | some y =>
    refine Src.ofSlice w Tryd.underlying92 y ps.length cap _ (by simp) (fun j u hu => ?_) one
    rcases h.2.2 with rfl | ⟨b, off, hx, _, hr⟩
    · simp at hu
    · cases hx
      rw [Addr.add_mid]
      exact hr j u hu
end Go.Proofs.YtogmkcabndgllaaDoor
namespace Go.Proofs.YtogmkcabndgllaaDoor
open Go.RowKit
open Sha
namespace Sha
/-- the mac of bytes by a key -/
def mac (key zs : List Int) : List Int := sha (xorL 92 (macBlock key) ++ sha (xorL 54 (macBlock key) ++ zs))
end Sha
theorem mac_length (key zs : List Int) : (mac key zs).length = 32 := sha_length _
theorem mac_ok (key zs : List Int) : ∀ z ∈ mac key zs, 0 ≤ z ∧ z < 256 := sha_ok _
theorem there24 (w : World) (d : List Int) (hd : d.length = 32) : (w.alloc (.cells (Array.replicate 32 (.int .u8 0)) 26)).there w.heap.size 0 (v8 d).toArray.size := by
  have e : (v8 d).toArray.size = 32 := by rw [List.size_toArray, v8_length, hd]
  rw [e]; exact (new_bytes w 32 26).2
theorem info24 (d : List Int) (hd : d.length = 32) : (Tryd.prog.info? 26).map (·.size) = some (v8 d).toArray.size := by rw [List.size_toArray, v8_length, hd]; exact isz24
end Go.Proofs.YtogmkcabndgllaaDoor
namespace Go.Proofs.YtogmkcabndgllaaDoor
open Go.RowKit
open Sha
theorem owns_mono {w : World} {B B' : Nat} {e : TypeId} {v : Value} {n : Nat} {xs : List Value} (h : w.ownsRow B e 1 v n xs) (hB : B' ≤ B) : w.ownsRow B' e 1 v n xs := by
  refine ⟨h.1, ?_⟩
  rcases h.2 with h | ⟨g, cap, cur, hv, hg, r⟩
  · exact .inl h
  · exact .inr ⟨g, cap, cur, hv, Nat.le_trans hB hg, r⟩
end Go.Proofs.YtogmkcabndgllaaDoor
namespace Go.Proofs.YtogmkcabndgllaaDoor
open Go.RowKit
open Sha
end Go.Proofs.YtogmkcabndgllaaDoor
namespace Go.Proofs.YtogmkcabndgllaaDoor
open Go.RowKit
open Sha
theorem exec_append {P : Program} {o : Oper} {a : Act} {w w' : World} {s x : Operand} {t tx : TypeId} {v xv v' : Value} (ho : o.op = .call { callee := .builtin .append, args := #[s, x], argTypes := #[t, tx] }) (hv : a.eval s = v) (hx : a.eval x = xv)
    (hr : (Builtin.append_ #[t, tx] o.type #[v, xv]).run P w = .ok v' w') : (execOp a.eval o).run P w = .ok (.value v') w' := by
  unfold execOp
  simp only [ho, resolve, invoke, builtin, Sem.run_bind, Sem.run_pure, Result.andThen_ok, List.map_toArray, List.map_cons, List.map_nil, hv, hx, hr]
/-- bytes of the call's own, with bytes behind them -/
theorem append_bytes {w : World} {B : Nat} {v : Value} {zs ys : List Int} {a : Option Addr} {cap : Nat} (ty : TypeId) (hB : B ≤ w.heap.size) (ho : w.ownsRow B 5 1 v zs.length (v8 zs)) (hz : ∀ z ∈ zs, 0 ≤ z ∧ z < 256) (hy : RowAt w a ys) (hl : zs.length + ys.length ≤ 10000000) :
    ∃ a' cap' w', (Builtin.append_ #[80, 80] ty #[v, .slice a ys.length cap]).run Tryd.prog w = .ok (.slice a' (zs ++ ys).length cap') w' ∧ w'.ownsRow B 5 1 (.slice a' (zs ++ ys).length cap') (zs ++ ys).length (v8 (zs ++ ys)) ∧ RowAt w' a' (zs ++ ys) ∧ (zs ++ ys).length ≤ cap' ∧ cap' ≤ maxLen ∧ w.grownBy w' v.ownBlock := by
  obtain ⟨i0, hi, hz0, hz1, hz2⟩ := info_parts info8
  obtain ⟨v', w', hr, hown, hgr⟩ := run_append_own_src (P := Tryd.prog) w B 80 80 ty 5 i0 (.int .u8 0) 1 1 Tryd.underlying80 hi hz0 hz1 hz2 rfl v zs.length (v8 zs) ho (.slice a ys.length cap) ys.length (v8 ys) (hy.src cap) (by unfold maxLen; omega) (by omega) hB
  rw [← v8_append, ← List.length_append] at hown
  obtain ⟨a', cap', rfl, h1, h2, h3⟩ := own_bytes hown (fun z hz' => by
    rcases List.mem_append.1 hz' with q | q
    · exact hz z q
    · exact hy.2.1 z q) (by rw [List.length_append]; unfold maxLen; omega)
  exact ⟨a', cap', w', hr, hown, h3, h1, h2, hgr⟩
theorem own_low {w : World} {B : Nat} {e : TypeId} {v : Value} {n : Nat} {xs : List Value} (h : w.ownsRow B e 1 v n xs) : ∀ k, v.ownBlock = some k → B ≤ k := by
  intro k hk
  rcases h.2 with ⟨rfl, _⟩ | ⟨g, cap, cur, rfl, hb, _⟩
  · simp [Value.ownBlock] at hk
  · have : g = k := by simpa [Value.ownBlock] using hk
    omega
end Go.Proofs.YtogmkcabndgllaaDoor
namespace Go.Proofs.YtogmkcabndgllaaDoor
open Go.RowKit
open Sha Tal
def reqL (c n : Int) (s : ByteArray) (t : List Int) : List Value := .int .i64 c :: .int .i64 n :: .string s :: v8 t
theorem req_cells (w : World) (c n : Int) (s : ByteArray) (t : List Int) : (w.alloc (.cells (reqL c n s t).toArray 73)).rangeAt w.heap.size 0 (reqL c n s t) := by
  have := range_new w (reqL c n s t).toArray 73
  simpa using this
theorem reqL_0 {w : World} {b : Nat} {c n : Int} {s : ByteArray} {t : List Int} (h : w.rangeAt b 0 (reqL c n s t)) : w.cell? ⟨b, 0, none⟩ = some (.int .i64 c) ∧ w.cell? ⟨b, 1, none⟩ = some (.int .i64 n) ∧ w.cell? ⟨b, 2, none⟩ = some (.string s) :=
  ⟨h 0 _ rfl, h 1 _ rfl, h 2 _ rfl⟩
def bodyL (c n : Int) (s : ByteArray) : List Int := [82] ++ putL c ++ putL n ++ textL s
set_option maxRecDepth 100000 in
set_option maxHeartbeats 2000000 in
theorem fields_any (a : Option Addr) (cap : Nat) (zs : List Int) (c n : Int) (s : ByteArray) (t : List Int) (w : World) (h : RowAt w a zs) (hm : zs.length ≤ 1000000) (hc : c ≤ 9223372036854775807) (hn : n ≤ 9223372036854775807) (hs : s.size ≤ 1000000) :
   Calls Tryd.prog 56 #[.slice a zs.length cap, .agg (reqL c n s t).toArray] w fun e w' => ∃ v, e = .returned v ∧ Mine w' w.heap.size v (zs ++ putL c ++ putL n ++ textL s) ∧ Below w.heap.size w w' := by
  have hB1 : Below w.heap.size w (w.alloc (.cells (reqL c n s t).toArray 73)) := (Below.refl _ _).alloc (Nat.le_refl _) _
  have hR1 := req_cells w c n s t
  have hz1 : w.heap.size < (w.alloc (.cells (reqL c n s t).toArray 73)).heap.size := by simp
  have hlc := putL_length c (by omega)
  have hln := putL_length n (by omega)
  obtain ⟨q, hq⟩ : ∃ q, Hid (reqL c n s t = q) := ⟨_, rfl⟩
  rw [hq.out] at hB1 hz1 ⊢
  rw [hq.out] at hR1
  obtain ⟨z1, hz1'⟩ : ∃ z1, Hid (zs ++ putL c = z1) := ⟨_, rfl⟩
  obtain ⟨z2, hz2'⟩ : ∃ z2, Hid (z1 ++ putL n = z2) := ⟨_, rfl⟩
  have l1 : z1.length ≤ 1000009 := by rw [← hz1'.out, List.length_append]; omega
  have l2 : z2.length ≤ 1000018 := by rw [← hz2'.out, List.length_append]; omega
  rw [hz1'.out, hz2'.out]
  clear hlc hln
  go_enter Tryd.func56, Tryd.ntmps56
  go_wp2_with fail
  go_name_world w1 hw1
  rw [show w.alloc (.cells q.toArray 73) = w1 from hw1] at hB1 hR1 hz1
  clear hw1
  have hB4 := hB1.drew
  have hR4 : w1.drew.rangeAt w.heap.size 0 q := (World.rangeAt_drew _ _ _ _).2 hR1
  have hz4 : w.heap.size < w1.drew.heap.size := hz1
  have h4 := h.below hB4
  clear hB1 hR1 hz1
  obtain ⟨X, hX⟩ : ∃ X, Hid (w.heap.size = X) := ⟨_, rfl⟩
  rw [hX.out] at hR4 hz4 ⊢
  obtain ⟨w5, hw5⟩ : ∃ w5, w1.drew = w5 := ⟨_, rfl⟩
  rw [hw5] at hB4 hR4 hz4 h4
  have cells : ∀ w', Below w5.heap.size w5 w' → w'.cell? ⟨X, 0, none⟩ = some (.int .i64 c) ∧ w'.cell? ⟨X, 1, none⟩ = some (.int .i64 n) ∧ w'.cell? ⟨X, 2, none⟩ = some (.string s) := fun w' hw' => by
    have := range_below hR4 hw' hz4
    rw [← hq.out] at this
    exact reqL_0 this
  refine hs_begin (S := (Below w5.heap.size w5)) 11 rfl (by kernel_rfl) ?_
  rw [hw5]
  clear hw5 hR4
  have hS : (Below w5.heap.size w5) w5 := Below.refl _ _
  refine hs_take (i := 0) (d := some 5) (v := ?_) rfl (by kernel_rfl) (by kernel_rfl) (by kernel_rfl) (by rfl) ?_ hS rfl ?_
  rotate_left
  · intro w' hw
    go_simp
    try with_reducible rfl
  simp only [Act.put, List.setIfInBounds_toArray, List.set_cons_zero, List.set_cons_succ]
  refine hs_take (i := 1) (d := some 6) (v := ?_) rfl (by kernel_rfl) (by kernel_rfl) (by kernel_rfl) (by rfl) ?_ hS rfl ?_
  rotate_left
  · intro w' hw
    go_simp
    try with_reducible rfl
  simp only [Act.put, List.setIfInBounds_toArray, List.set_cons_zero, List.set_cons_succ]
  refine hs_take (i := 2) (d := some 7) (v := ?_) rfl (by kernel_rfl) (by kernel_rfl) (by kernel_rfl) (by rfl) ?_ hS rfl ?_
  rotate_left
  · intro w' hw
    have hc := (cells w' hw).1
    go_simp
    try with_reducible rfl
  simp only [Act.put, List.setIfInBounds_toArray, List.set_cons_zero, List.set_cons_succ]
  refine hs_take (i := 4) (d := some 9) (v := ?_) rfl (by kernel_rfl) (by kernel_rfl) (by kernel_rfl) (by rfl) ?_ hS rfl ?_
  rotate_left
  · intro w' hw
    go_simp
    try with_reducible rfl
  simp only [Act.put, List.setIfInBounds_toArray, List.set_cons_zero, List.set_cons_succ]
  refine hs_take (i := 5) (d := some 10) (v := ?_) rfl (by kernel_rfl) (by kernel_rfl) (by kernel_rfl) (by rfl) ?_ hS rfl ?_
  rotate_left
  · intro w' hw
    have hc := (cells w' hw).2.1
    go_simp
    try with_reducible rfl
  simp only [Act.put, List.setIfInBounds_toArray, List.set_cons_zero, List.set_cons_succ]
  refine hs_take (i := 7) (d := some 12) (v := ?_) rfl (by kernel_rfl) (by kernel_rfl) (by kernel_rfl) (by rfl) ?_ hS rfl ?_
  rotate_left
  · intro w' hw
    go_simp
    try with_reducible rfl
  simp only [Act.put, List.setIfInBounds_toArray, List.set_cons_zero, List.set_cons_succ]
  refine hs_take (i := 8) (d := some 13) (v := ?_) rfl (by kernel_rfl) (by kernel_rfl) (by kernel_rfl) (by rfl) ?_ hS rfl ?_
  rotate_left
  · intro w' hw
    have hc := (cells w' hw).2.2
    go_simp
    try with_reducible rfl
  simp only [Act.put, List.setIfInBounds_toArray, List.set_cons_zero, List.set_cons_succ]
  clear cells
  have c6 := put_any a cap zs c w5 h4 (by omega) hc
  rw [hz1'.out] at c6
  refine hs_call (i := 3) (d := some 8) rfl (by kernel_rfl) (by rfl) (by go_simp; first | done | exact ⟨rfl, rfl⟩ | with_reducible rfl) rfl ?_
  refine (c6).mono ?_
  rintro e' w6 ⟨v6, rfl, hM6, hw6⟩
  have hS : (Below w5.heap.size w5) w6 := hS.trans (hw6.mono hS.size)
  refine ⟨_, rfl, hS, ?_⟩
  simp only [Act.put, List.setIfInBounds_toArray, List.set_cons_zero, List.set_cons_succ]
  obtain ⟨a6, cap6, rfl, _, _, hrow6⟩ := hM6.rowAt (by unfold maxLen; omega)
  clear c6 hM6 hw6
  have c7 := put_any a6 cap6 z1 n w6 hrow6 (by omega) hn
  rw [hz2'.out] at c7
  refine hs_call (i := 6) (d := some 11) rfl (by kernel_rfl) (by rfl) (by go_simp; first | done | exact ⟨rfl, rfl⟩ | with_reducible rfl) rfl ?_
  refine (c7).mono ?_
  rintro e' w7 ⟨v7, rfl, hM7, hw7⟩
  have hS : (Below w5.heap.size w5) w7 := hS.trans (hw7.mono hS.size)
  refine ⟨_, rfl, hS, ?_⟩
  simp only [Act.put, List.setIfInBounds_toArray, List.set_cons_zero, List.set_cons_succ]
  obtain ⟨a7, cap7, rfl, _, _, hrow7⟩ := hM7.rowAt (by unfold maxLen; omega)
  have hs7 : w5.heap.size ≤ w7.heap.size := hS.size
  clear c7 hM7 hw7 hrow6
  have c8 := putText_any a7 cap7 z2 s w7 hrow7 (by omega) (by omega)
  refine hs_call (i := 9) (d := some 14) rfl (by kernel_rfl) (by rfl) (by go_simp; first | done | exact ⟨rfl, rfl⟩ | with_reducible rfl) rfl ?_
  refine (c8).mono ?_
  rintro e' w8 ⟨v8, rfl, hM8, hw8⟩
  have hS : (Below w5.heap.size w5) w8 := hS.trans (hw8.mono hS.size)
  refine ⟨_, rfl, hS, ?_⟩
  simp only [Act.put, List.setIfInBounds_toArray, List.set_cons_zero, List.set_cons_succ]
  have hfin := hB4.trans (hS.mono hB4.size)
  have hM9 : Mine w8 w.heap.size v8 (z2 ++ textL s) := ⟨owns_mono hM8.1 (by have := hB4.size; omega), hM8.2⟩
  clear c8 hM8 hw8 hrow7
  refine hs_take (i := 10) (d := some 4) (v := ?_) rfl (by kernel_rfl) (by kernel_rfl) (by kernel_rfl) (by rfl) ?_ hS rfl ?_
  rotate_left
  · intro w' hw
    go_simp
    try with_reducible rfl
  simp only [Act.put, List.setIfInBounds_toArray, List.set_cons_zero, List.set_cons_succ]
  refine hs_done (by kernel_rfl) ?_
  go_wp2
  go_ret
  exact ⟨_, rfl, hM9, hfin⟩
end Go.Proofs.YtogmkcabndgllaaDoor
namespace Go.Proofs.YtogmkcabndgllaaDoor
open Go.RowKit
open Sha Tal
theorem hide {p : Prop} (h : p) : Hid p := h
theorem iszT : (Tryd.prog.info? 71).map (·.size) = some 16 := by kernel_rfl
/-- a string's bytes, laid anew -/
theorem str_bytes (s : ByteArray) (w : World) (hs : s.size ≤ 1000000) : ∃ cap w', (convert 9 80 (.string s)).run Tryd.prog w = .ok (.slice (some ⟨w.heap.size, 0, none⟩) s.size cap) w' ∧ RowAt w' (some ⟨w.heap.size, 0, none⟩) (strL s) ∧ s.size ≤ cap ∧ cap ≤ maxLen ∧ Below w.heap.size w w' ∧ w.heap.size < w'.heap.size := by
  refine ⟨_, _, run_bytes_of_string w 9 80 5 s Tryd.underlying9 Tryd.underlying80 Tryd.underlying5, ?_, grownCap_ge _ _ _ _, grownCap_le_maxLen _ _ _ _ (by unfold maxLen; omega), ((Below.refl _ _).drew).alloc (Nat.le_refl _) _, by simp⟩
  refine ⟨by rw [strL_length]; unfold maxLen; omega, strL_byte s, Or.inr ⟨_, 0, rfl, by simp, ?_⟩⟩
  have := range_mark w.drew (bytesRow s (grownCap w s.size 0 5)) 5 ((bytesRow s (grownCap w s.size 0 5)).size, (bytesRow s (grownCap w s.size 0 5)).size + 1)
  have e : (bytesRow s (grownCap w s.size 0 5)).toList = v8 (strL s) ++ List.replicate (grownCap w s.size 0 5 - s.size) (.int .u8 0) := by
    simp [bytesRow, v8, strL]
  rw [e] at this
  exact range_left this
/-- keys in memory: nil, or a struct that leads to a row of digests -/
def KeysAt (w : World) (p : Option Addr) (ds : List (List Int)) : Prop :=
  (p = none ∧ ds = []) ∨ ∃ K a cap, p = some ⟨K, 0, none⟩ ∧ K < w.heap.size ∧ w.cell? ⟨K, 0, none⟩ = some (.slice a ds.length cap) ∧ ds.length ≤ 4096 ∧ (∀ d ∈ ds, d.length = 32 ∧ ∀ z ∈ d, 0 ≤ z ∧ z < 256) ∧
    (ds = [] ∨ ∃ D, a = some ⟨D, 0, none⟩ ∧ D < w.heap.size ∧ ∀ i d, ds[i]? = some d → w.rangeAt D (i * 32) (v8 d))
theorem KeysAt.below {w w' : World} {p : Option Addr} {ds : List (List Int)} (h : KeysAt w p ds) (hb : Below w.heap.size w w') : KeysAt w' p ds := by
  rcases h with h | ⟨K, a, cap, rfl, hK, hc, hl, hd, hr⟩
  · exact .inl h
  · refine .inr ⟨K, a, cap, rfl, Nat.lt_of_lt_of_le hK hb.size, (hb.cell (p := ⟨K, 0, none⟩) hK).trans hc, hl, hd, ?_⟩
    rcases hr with hr | ⟨D, rfl, hD, hr⟩
    · exact .inl hr
    · exact .inr ⟨D, rfl, Nat.lt_of_lt_of_le hD hb.size, fun i d hi => range_below (hr i d hi) hb hD⟩
theorem KeysAt.len {w : World} {p : Option Addr} {ds : List (List Int)} (h : KeysAt w p ds) : ds.length ≤ 4096 := by
  rcases h with ⟨_, rfl⟩ | ⟨K, a, cap, _, _, _, hl, _⟩
  · simp
  · exact hl
def zeros16 : List Int := List.replicate 16 0
/-- a tag and an error: what Sign answers -/
def signOf (ds : List (List Int)) (id : Int) (body : ByteArray) : List Int × Int :=
  if ds = [] then (zeros16, 1) else if id < 0 ∨ (ds.length : Int) ≤ id then (zeros16, 2) else ((mac (ds.getD id.toNat []) (strL body)).take 16, 0)
theorem signOf_length (ds : List (List Int)) (id : Int) (body : ByteArray) : (signOf ds id body).1.length = 16 := by
  unfold signOf
  split
  · rfl
  · split
    · rfl
    · simp [mac_length]
theorem signOf_ok (ds : List (List Int)) (id : Int) (body : ByteArray) : ∀ z ∈ (signOf ds id body).1, 0 ≤ z ∧ z < 256 := by
  unfold signOf
  split
  · decide
  · split
    · decide
    · intro z hz; exact mac_ok _ _ z (List.mem_of_mem_take hz)
theorem arr16 (b : Nat) (w : World) : (Instr.arrayAt 71 (.slice (some ⟨b, 0, none⟩) 16 32)).run Tryd.prog w = .ok (.pointer (some ⟨b, 0, none⟩)) w := by kernel_rfl
theorem info16 (t : List Int) (h : t.length = 16) : (Tryd.prog.info? 71).map (·.size) = some (v8 t).toArray.size := by rw [List.size_toArray, v8_length, h]; exact iszT
theorem load16 {w : World} {b o : Nat} {t : List Int} (h : t.length = 16) (hr : w.rangeAt b o (v8 t)) : (loadVar 71 ⟨b, o, none⟩).run Tryd.prog w = .ok (.agg (v8 t).toArray) w :=
  run_loadVar_mid (P := Tryd.prog) w b o 71 (v8 t) _ hr Tryd.underlying71 rfl (by simpa using info16 t h)
/-- a tag against another one -/
theorem eql16 (xs ys : List Int) (hx : xs.length = 16) (hy : ys.length = 16) (w : World) : (binOp .eql 71 (.agg (v8 xs).toArray) (.agg (v8 ys).toArray)).run Tryd.prog w = .ok (.bool (xs == ys)) w := by
  rw [run_eql_struct, run_equal8 w 9998 71 5 16 Tryd.underlying71 Tryd.underlying5 isz8 xs ys hx hy]; rfl
theorem neq16 (xs ys : List Int) (hx : xs.length = 16) (hy : ys.length = 16) (w : World) : (binOp .neq 71 (.agg (v8 xs).toArray) (.agg (v8 ys).toArray)).run Tryd.prog w = .ok (.bool (!(xs == ys))) w := by
  rw [run_neq_struct, run_equal8 w 9998 71 5 16 Tryd.underlying71 Tryd.underlying5 isz8 xs ys hx hy]; rfl
end Go.Proofs.YtogmkcabndgllaaDoor
namespace Go.Proofs.YtogmkcabndgllaaDoor
open Go.RowKit
open Sha Tal
theorem reqL_length (c n : Int) (s : ByteArray) (t : List Int) (ht : t.length = 16) : (reqL c n s t).length = 19 := by simp [reqL, v8_length, ht]
theorem iszR : (Tryd.prog.info? 73).map (·.size) = some 19 := by kernel_rfl
theorem row_mine {w : World} {a : Option Addr} {zs : List Int} (h : RowAt w a zs) (cap : Nat) : (convert 80 9 (.slice a zs.length cap)).run Tryd.prog w = .ok (.string (strOf zs)) w := by
  rcases h.2.2 with rfl | ⟨b, off, rfl, _, hr⟩
  · rw [List.length_nil, run_convert_bytes_string w 80 9 5 a 0 cap Tryd.underlying80 Tryd.underlying5 Tryd.underlying9]
    cases a <;> rfl
  · exact row_str hr
theorem one_mark (w : World) : RowAt (w.alloc (.cells #[.int .u8 82] 5 (1, 2))) (some ⟨w.heap.size, 0, none⟩) [82] :=
  ⟨by unfold maxLen; simp, by decide, Or.inr ⟨w.heap.size, 0, rfl, by simp, fun j v hv => by
    rw [World.cell?_alloc_mark, Nat.zero_add]
    simpa [v8] using hv⟩⟩
theorem one_byte (w : World) : RowAt (w.alloc (.cells #[.int .u8 82] 5)) (some ⟨w.heap.size, 0, none⟩) [82] :=
  ⟨by unfold maxLen; simp, by decide, Or.inr ⟨w.heap.size, 0, rfl, by simp, range_new w #[.int .u8 82] 5⟩⟩
theorem bodyL_length (c n : Int) (s : ByteArray) (hc : c ≤ 9223372036854775807) (hn : n ≤ 9223372036854775807) (hs : s.size ≤ 100000) : (bodyL c n s).length ≤ 200000 := by
  have h1 := putL_length c (by omega)
  have h2 := putL_length n (by omega)
  have h3 := putL_length s.size (by omega)
  simp only [bodyL, textL, List.length_append, strL_length, List.length_cons, List.length_nil]
  omega
end Go.Proofs.YtogmkcabndgllaaDoor
namespace Go.Proofs.YtogmkcabndgllaaDoor
open Go.RowKit
open Sha Tal
/-- an identity's key -/
def keyOf (seed : ByteArray) (id : Nat) : List Int := sha (textL seed ++ putL (id : Int))
def keysOf (seed : ByteArray) (n : Nat) : List (List Int) := (List.range n).map (keyOf seed)
theorem keysOf_length (seed : ByteArray) (n : Nat) : (keysOf seed n).length = n := by simp [keysOf]
theorem keysOf_get (seed : ByteArray) (n i : Nat) (d : List Int) (h : (keysOf seed n)[i]? = some d) : i < n ∧ d = keyOf seed i := by
  have hi : i < n := by have := (List.getElem?_eq_some_iff.1 h).1; simpa [keysOf] using this
  refine ⟨hi, ?_⟩
  simp [keysOf, List.getElem?_map, List.getElem?_range hi] at h
  exact h.symm
theorem keysOf_getD (seed : ByteArray) (n i : Nat) (h : i < n) : (keysOf seed n).getD i [] = keyOf seed i := by
  rw [List.getD_eq_getElem?_getD, keysOf, List.getElem?_map, List.getElem?_range h]; rfl
theorem keyOf_length (seed : ByteArray) (id : Nat) : (keyOf seed id).length = 32 := sha_length _
theorem keyOf_ok (seed : ByteArray) (id : Nat) : ∀ z ∈ keyOf seed id, 0 ≤ z ∧ z < 256 := sha_ok _
theorem info32 : (Tryd.prog.info? 26).map (fun i => (i.zero, i.size, i.bytes)) = some (some (.agg (Array.replicate 32 (.int .u8 0))), 32, 32) := by kernel_rfl
theorem own_there {w : World} {base : Nat} {e : TypeId} {size g n : Nat} {xs : List Value} (h : w.ownsRow base e size (.slice (some ⟨g, 0, none⟩) n n) n xs) : w.there g 0 (n * size) := by
  rcases h.2 with ⟨hv, _⟩ | ⟨g', cap, cur, hv, hb, hg, h1, h2, h3, h4⟩
  · cases hv
  · injection hv with ha hl hc
    simp only [Option.some.injEq, Addr.mk.injEq] at ha
    obtain ⟨rfl, _⟩ := ha
    subst hc
    intro j hj
    rw [Nat.zero_add]
    have hj' : j < cur.size := by rw [h3]; exact hj
    constructor
    · simp [World.cell?, hg, hj']
    · simp [World.frozen?, hg]
theorem there_mid {w : World} {g o n i m : Nat} (h : w.there g o n) (hm : i + m ≤ n) : w.there g (o + i) m := there_part h i m hm
theorem putL_pos (n : Int) (h : 0 ≤ n) : 0 < (putL n).length := by
  unfold putL; rw [if_neg (by omega)]; simp [numB]
end Go.Proofs.YtogmkcabndgllaaDoor
namespace Go.Proofs.YtogmkcabndgllaaDoor
open Go.RowKit
open Sha Tal
/-- a load behind a guard that says yes -/
theorem wpList_load_g {P : Program} {ops : Array Oper} {rest : List Oper} {op : Oper} {a : Act} {w : World} {Q : Exit → Act → World → Prop} (hgd : Region.wanted op (yielded ops a.tmps) = true) (ty : TypeId) (x : Operand) (ho : op.op = .load ty x)
    (b o : Nat) (hx : a.eval x = .pointer (some ⟨b, o, none⟩)) (cs : List Value) (d : TypeDesc) (hc : w.rangeAt b o cs)
    (hu : P.underlying ty = some d) (hd : d.isRow = true) (hi : (P.info? ty).map (·.size) = some cs.length)
    (h : wpList P ops Q rest (a.put op.dst (.agg cs.toArray)) w) : wpList P ops Q (op :: rest) a w :=
  wpList_step fun _ hK => by rw [if_pos hgd]; exact wp_load_mid ty x ho b o hx cs d hc hu hd hi (hK _ _ h)
/-- what Check answers -/
def checkOf (r : List Int × Int) (t : List Int) : Bool := (r.2 == 0) && (r.1 == t)
end Go.Proofs.YtogmkcabndgllaaDoor
namespace Go.Proofs.YtogmkcabndgllaaDoor
open Go.RowKit
open Sha Tal
/-- what the document's Sign answers -/
def refSignOf (seed : ByteArray) (N id : Int) (body : ByteArray) : List Int × Int :=
  if id < 0 ∨ N ≤ id then (zeros16, 2) else ((mac (keyOf seed id.toNat) (strL body)).take 16, 0)
theorem refSignOf_length (seed : ByteArray) (N id : Int) (body : ByteArray) : (refSignOf seed N id body).1.length = 16 := by
  unfold refSignOf
  split
  · rfl
  · simp [mac_length]
/-- the keys that Derive makes sign as the document says -/
theorem sign_same (seed : ByteArray) (n : Nat) (hn : 1 ≤ n) (id : Int) (body : ByteArray) : signOf (keysOf seed n) id body = refSignOf seed n id body := by
  unfold signOf refSignOf
  have h0 : keysOf seed n ≠ [] := fun h => by have := keysOf_length seed n; rw [h] at this; simp at this; omega
  rw [if_neg h0, keysOf_length]
  by_cases h : id < 0 ∨ (n : Int) ≤ id
  · rw [if_pos h, if_pos h]
  · rw [if_neg h, if_neg h, keysOf_getD seed n id.toNat (by omega)]
end Go.Proofs.YtogmkcabndgllaaDoor
namespace Go.Proofs.YtogmkcabndgllaaDoor
open Go.RowKit
open Sha Tal
theorem lit16 : (#[.int .u8 0, .int .u8 0, .int .u8 0, .int .u8 0, .int .u8 0, .int .u8 0, .int .u8 0, .int .u8 0, .int .u8 0, .int .u8 0, .int .u8 0, .int .u8 0, .int .u8 0, .int .u8 0, .int .u8 0, .int .u8 0] : Array Value) = (v8 zeros16).toArray := by rfl
theorem rep16 : Array.replicate 16 (Value.int .u8 0) = (v8 zeros16).toArray := by rfl
def tagV (ds : List (List Int)) (N c n : Int) (s : ByteArray) : List Int × Int :=
  if N < 0 ∨ 64 < N ∨ (ds.length : Int) - N ≤ c then (zeros16, 2) else signOf ds (N + c) (strOf (bodyL c n s))
theorem two_made (w : World) (q z : List Value) : Below w.heap.size w ((w.alloc (.cells q.toArray 73)).alloc (.cells z.toArray 71)) ∧
    ((w.alloc (.cells q.toArray 73)).alloc (.cells z.toArray 71)).rangeAt w.heap.size 0 q ∧ ((w.alloc (.cells q.toArray 73)).alloc (.cells z.toArray 71)).there (w.heap.size + 1) 0 z.length ∧
    w.heap.size + 1 < ((w.alloc (.cells q.toArray 73)).alloc (.cells z.toArray 71)).heap.size := by
  have b1 : Below w.heap.size w (w.alloc (.cells q.toArray 73)) := (Below.refl _ _).alloc (Nat.le_refl _) _
  have b2 : Below (w.alloc (.cells q.toArray 73)).heap.size (w.alloc (.cells q.toArray 73)) ((w.alloc (.cells q.toArray 73)).alloc (.cells z.toArray 71)) := (Below.refl _ _).alloc (Nat.le_refl _) _
  refine ⟨b1.trans (b2.mono b1.size), range_below (range_new w q.toArray 73) b2 (by simp), ?_, by simp⟩
  have := there_new (w.alloc (.cells q.toArray 73)) z.toArray 71
  simpa using this
end Go.Proofs.YtogmkcabndgllaaDoor
namespace Go.Proofs.YtogmkcabndgllaaDoor
open Go.RowKit
open Sha Tal
theorem KeysAt.apart {w : World} {p : Option Addr} {ds : List (List Int)} (h : KeysAt w p ds) (X : Nat) (s : ByteArray) (hX : w.cell? ⟨X, 0, none⟩ = some (.string s)) (vs : List Value) : KeysAt (w.setCells X 0 vs) p ds := by
  rcases h with h | ⟨K, a, cap, rfl, hK, hc, hl, hd, hr⟩
  · exact .inl h
  · have hKX : K ≠ X := fun e => by subst e; rw [hc] at hX; cases hX
    have hcK : w.rangeAt K 0 [.slice a ds.length cap] := fun j v hv => by
      cases j with
      | zero => simp at hv; subst hv; exact hc
      | succ j => simp at hv
    have hc' := World.rangeAt_setCells_apart hcK X 0 vs (.inl hKX) 0 _ rfl
    refine .inr ⟨K, a, cap, rfl, by rw [size_sets]; exact hK, hc', hl, hd, ?_⟩
    rcases hr with hr | ⟨D, rfl, hD, hr⟩
    · exact .inl hr
    · by_cases hz : ds = []
      · exact .inl hz
      · refine .inr ⟨D, rfl, by rw [size_sets]; exact hD, fun i d hi => ?_⟩
        have hDX : D ≠ X := fun e => by
          subst e
          obtain ⟨d0, dr, rfl⟩ := List.exists_cons_of_ne_nil hz
          have h0 := hr 0 d0 rfl
          obtain ⟨l0, _⟩ := hd d0 (List.mem_cons_self ..)
          have hc0 := get8 h0 (i := 0) (by omega)
          simp only [Nat.zero_mul, Nat.add_zero] at hc0
          rw [hc0] at hX
          cases hX
        exact World.rangeAt_setCells_apart (hr i d hi) X 0 vs (.inl hDX)
def seedR : ByteArray := { data := #[114] }
def rkL : List Value := [.string seedR, .int .i64 72]
end Go.Proofs.YtogmkcabndgllaaDoor
namespace Go.Proofs.YtogmkcabndgllaaDoor
open Go.RowKit
open Sha Tal
def noReq : List Value := reqL 0 0 ⟨#[]⟩ zeros16
theorem litReq : (#[.int .i64 0, .int .i64 0, .string ⟨#[]⟩, .int .u8 0, .int .u8 0, .int .u8 0, .int .u8 0, .int .u8 0, .int .u8 0, .int .u8 0, .int .u8 0, .int .u8 0, .int .u8 0, .int .u8 0, .int .u8 0, .int .u8 0, .int .u8 0, .int .u8 0, .int .u8 0] : Array Value) = noReq.toArray := by rfl
theorem iszN : (Tryd.prog.info? 73).map (·.size) = some noReq.toArray.size := by kernel_rfl
theorem reqL_one (c n : Int) (s : ByteArray) (t : List Int) : ∀ v ∈ reqL c n s t, v.oneCell' = true := by
  intro v hv
  simp only [reqL, List.mem_cons] at hv
  rcases hv with rfl | rfl | rfl | hv
  · rfl
  · rfl
  · rfl
  · exact v8_one t v hv
theorem strOf_aux : ∀ (zs : List Int) (r : ByteArray), (zs.foldl (fun r n => r.push (UInt8.ofNat n.toNat)) r).size = r.size + zs.length
  | [], r => by simp
  | z :: zs, r => by rw [List.foldl_cons, strOf_aux zs, ByteArray.size_push, List.length_cons]; omega
theorem strOf_size (zs : List Int) : (strOf zs).size = zs.length := by unfold strOf; rw [strOf_aux]; simp
theorem body_small (c n : Int) (s : ByteArray) (hc : c ≤ 9223372036854775807) (hn : n ≤ 9223372036854775807) (hs : s.size ≤ 90000) : (bodyL c n s).length ≤ 100000 := by
  have h1 := putL_length c (by omega)
  have h2 := putL_length n (by omega)
  have h3 := putL_length s.size (by omega)
  simp only [bodyL, textL, List.length_append, strL_length, List.length_cons, List.length_nil]
  omega
theorem reqL_put {w : World} {b : Nat} {c n : Int} {s : ByteArray} {t u : List Int} (h : w.rangeAt b 0 (reqL c n s t)) (hu : u.length = 16) (hT : w.there b 0 19) : (w.setCells b 3 (v8 u)).rangeAt b 0 (reqL c n s u) := by
  have e : ∀ x, reqL c n s x = [.int .i64 c, .int .i64 n, .string s] ++ v8 x := fun _ => rfl
  rw [e] at h ⊢
  refine range_join (World.rangeAt_setCells_apart (range_left h) b 3 (v8 u) (.inr (.inl (by simp)))) ?_
  exact World.rangeAt_setCells_same w b 3 (v8 u) (there_part hT 3 _ (by rw [v8_length, hu]; omega))
def mayB (c n m : Int) (s : ByteArray) : Prop := 0 ≤ c ∧ c < m ∧ 1 ≤ n ∧ n ≤ 1099511627776 ∧ s.size ≤ 64
theorem tagV_length (ds : List (List Int)) (N c n : Int) (s : ByteArray) : (tagV ds N c n s).1.length = 16 := by
  unfold tagV; split
  · rfl
  · exact signOf_length _ _ _
end Go.Proofs.YtogmkcabndgllaaDoor
namespace Go.Proofs.YtogmkcabndgllaaDoor
open Go.RowKit
open Sha Tal
theorem reqL_tag {w : World} {b : Nat} {c n : Int} {s : ByteArray} {t : List Int} (h : w.rangeAt b 0 (reqL c n s t)) : w.rangeAt b 3 (v8 t) := by
  have e : reqL c n s t = [.int .i64 c, .int .i64 n, .string s] ++ v8 t := rfl
  rw [e] at h
  exact range_right h
def goodV (ds : List (List Int)) (N m c n : Int) (s : ByteArray) (t : List Int) : Int :=
  if ds.length = 0 then 1 else if ¬ (0 ≤ c ∧ c < m ∧ 1 ≤ n ∧ n ≤ 1099511627776 ∧ s.size ≤ 64) then 60
  else if (tagV ds N c n s).2 ≠ 0 then 61 else if (tagV ds N c n s).1 = t then 0 else 61
end Go.Proofs.YtogmkcabndgllaaDoor
namespace Go.Proofs.YtogmkcabndgllaaDoor
open Go.RowKit
open Sha Tal
theorem fldR : (Tryd.prog.fieldsOf 73).toList.map (fun f => (f.name, f.type, f.offset)) = [("Client", 3, 0), ("Num", 3, 1), ("Data", 9, 2), ("Tag", 71, 3)] := by kernel_rfl
theorem part_int (w : World) (q : List Value) (i : Nat) (c : Int) (h : q[i]? = some (.int .i64 c)) : (part 3 q.toArray i).run Tryd.prog w = .ok (.int .i64 c) w := by
  simp [part, isAgg, run_underlying Tryd.underlying3, h]
theorem part_str (w : World) (q : List Value) (i : Nat) (s : ByteArray) (h : q[i]? = some (.string s)) : (part 9 q.toArray i).run Tryd.prog w = .ok (.string s) w := by
  simp [part, isAgg, run_underlying Tryd.underlying9, h]
theorem part_tag (w : World) (c n : Int) (s : ByteArray) (t : List Int) (ht : t.length = 16) : (part 71 (reqL c n s t).toArray 3).run Tryd.prog w = .ok (.agg (v8 t).toArray) w := by
  have hx : List.take 16 (List.drop 3 (reqL c n s t)) = v8 t := by
    show List.take 16 (v8 t) = v8 t
    rw [List.take_of_length_le (by rw [v8_length, ht]; exact Nat.le_refl _)]
  simp [part, isAgg, run_underlying Tryd.underlying71, run_size iszT, hx]
theorem undR : Tryd.prog.underlying 73 = some (.struct (Tryd.prog.fieldsOf 73)) := by kernel_rfl
theorem sihR : Tryd.prog.stoodInHeld 73 = false := by kernel_rfl
def reqB (c n : Int) (s : ByteArray) (t : List Int) (c' n' : Int) (s' : ByteArray) (t' : List Int) : Bool := (c == c') && ((n == n') && ((s.toList == s'.toList) && (t == t')))
theorem reqEqIn (d : Nat) (c n : Int) (s : ByteArray) (t : List Int) (c' n' : Int) (s' : ByteArray) (t' : List Int) (ht : t.length = 16) (ht' : t'.length = 16) (w : World) :
    (Op.equalIn (d + 2 + 1) 73 (.agg (reqL c n s t).toArray) (.agg (reqL c' n' s' t').toArray)).run Tryd.prog w = .ok (reqB c n s t c' n' s' t') w := by
  rw [run_equalIn_struct w (d + 2) 73 _ _ undR sihR]
  have hf := fldR
  generalize (Tryd.prog.fieldsOf 73).toList = fs at hf
  obtain ⟨f0, f1, f2, f3, rfl⟩ : ∃ f0 f1 f2 f3, fs = [f0, f1, f2, f3] := by
    rcases fs with _ | ⟨f0, _ | ⟨f1, _ | ⟨f2, _ | ⟨f3, _ | ⟨f4, fs⟩⟩⟩⟩⟩ <;> simp at hf
    exact ⟨f0, f1, f2, f3, rfl⟩
  simp only [List.map_cons, List.map_nil, List.cons.injEq, Prod.mk.injEq, and_true] at hf
  obtain ⟨⟨a0, b0, d0⟩, ⟨a1, b1, d1⟩, ⟨a2, b2, d2⟩, ⟨a3, b3, d3⟩⟩ := hf
  have p0 := part_int w (reqL c n s t) 0 c rfl
  have p1 := part_int w (reqL c' n' s' t') 0 c' rfl
  have p2 := part_int w (reqL c n s t) 1 n rfl
  have p3 := part_int w (reqL c' n' s' t') 1 n' rfl
  have p4 := part_str w (reqL c n s t) 2 s rfl
  have p5 := part_str w (reqL c' n' s' t') 2 s' rfl
  have p6 := part_tag w c n s t ht
  have p7 := part_tag w c' n' s' t' ht'
  have e0 := run_equalIn_int (P := Tryd.prog) w (d + 1) 3 .i64 .i64 c c' Tryd.underlying3
  have e1 := run_equalIn_int (P := Tryd.prog) w (d + 1) 3 .i64 .i64 n n' Tryd.underlying3
  have e2 := run_equalIn_string (P := Tryd.prog) w (d + 1) 9 s s' Tryd.underlying9
  have e3 := run_equal8 (P := Tryd.prog) w d 71 5 16 Tryd.underlying71 Tryd.underlying5 isz8 t t' ht ht'
  unfold reqB
  generalize (reqL c n s t).toArray = q at *
  generalize (reqL c' n' s' t').toArray = q' at *
  obtain ⟨T, hT⟩ : ∃ T, (v8 t).toArray = T := ⟨_, rfl⟩
  obtain ⟨T', hT'⟩ : ∃ T, (v8 t').toArray = T := ⟨_, rfl⟩
  rw [hT] at p6 e3
  rw [hT'] at p7 e3
  clear hT hT'
  obtain ⟨D, hD⟩ : ∃ D, d + 1 + 1 = D := ⟨_, rfl⟩
  have e3 : (Op.equalIn (d + 1 + 1) 71 (.agg T) (.agg T')).run Tryd.prog w = .ok (t == t') w := e3
  rw [hD] at e3
  have hn0 : ¬ ("Client" = "_") := by decide
  have hn1 : ¬ ("Num" = "_") := by decide
  have hn2 : ¬ ("Data" = "_") := by decide
  have hn3 : ¬ ("Tag" = "_") := by decide
  simp only [Op.eqFields, a0, a1, a2, a3, b0, b1, b2, b3, d0, d1, d2, d3, ne_eq, hn0, hn1, hn2, hn3, not_false_eq_true, if_true]
  rw [show d + 2 = d + 1 + 1 from rfl, hD]
  rw [hD] at e0 e1 e2
  clear hD
  simp only [Sem.run_bind, p0, p1, Result.andThen_ok, e0]
  cases (c == c')
  · simp only [Bool.not_false, if_true, Sem.run_pure, Bool.false_and]
  · simp only [Bool.not_true, Bool.false_eq_true, if_false, Sem.run_bind, p2, p3, Result.andThen_ok, e1, Bool.true_and]
    cases (n == n')
    · simp only [Bool.not_false, if_true, Sem.run_pure, Bool.false_and]
    · simp only [Bool.not_true, Bool.false_eq_true, if_false, Sem.run_bind, p4, p5, Result.andThen_ok, e2, Bool.true_and]
      cases (s.toList == s'.toList)
      · simp only [Bool.not_false, if_true, Sem.run_pure, Bool.false_and]
      · simp only [Bool.not_true, Bool.false_eq_true, if_false, Sem.run_bind, p6, p7, Result.andThen_ok, e3, Bool.true_and]
        cases (t == t')
        · simp only [Bool.not_false, if_true, Sem.run_pure]
        · simp only [Bool.not_true, Bool.false_eq_true, if_false, Sem.run_pure]
theorem eqReq (c n : Int) (s : ByteArray) (t : List Int) (c' n' : Int) (s' : ByteArray) (t' : List Int) (ht : t.length = 16) (ht' : t'.length = 16) (w : World) :
    (binOp .eql 73 (.agg (reqL c n s t).toArray) (.agg (reqL c' n' s' t').toArray)).run Tryd.prog w = .ok (.bool (reqB c n s t c' n' s' t')) w := by
  rw [run_eql_struct, reqEqIn 9997 c n s t c' n' s' t' ht ht']; rfl
theorem reqB_same (c n : Int) (s : ByteArray) (t : List Int) : reqB c n s t c n s t = true := by simp [reqB]
end Go.Proofs.YtogmkcabndgllaaDoor
namespace Go.Proofs.YtogmkcabndgllaaDoor
open Go.RowKit
open Sha Tal
theorem sign_in (seed : ByteArray) (n k : Nat) (hk : k < n) (body : ByteArray) : (signOf (keysOf seed n) (k : Int) body).2 = 0 := by
  unfold signOf
  have h0 : keysOf seed n ≠ [] := fun h => by have := keysOf_length seed n; rw [h] at this; simp at this; omega
  rw [if_neg h0, keysOf_length, if_neg (by omega)]
end Go.Proofs.YtogmkcabndgllaaDoor
namespace Go.Proofs.YtogmkcabndgllaaDoor
open Go.ChangeShapes Go.WideShapes Go.ChangeAt Go.RowKit
open Sha
theorem wf64 {z : Int} (h : (Lit.int .i64 z).wf = true) : -9223372036854775808 ≤ z ∧ z ≤ 9223372036854775807 := by
  simp only [Lit.wf, Bool.and_eq_true, decide_eq_true_eq] at h
  exact h
theorem some_at {α : Type} {xs : List α} {n i : Nat} (hl : xs.length = n) (hi : i < n) : ∃ y, xs[i]? = some y := ⟨xs[i]'(by omega), List.getElem?_eq_getElem (by omega)⟩
theorem drop_one {α : Type} {l : List α} {o : Nat} {v : α} (h : (l.drop o).take 1 = [v]) : l[o]? = some v := by
  have := congrArg (·[0]?) h
  simpa [List.getElem?_take, List.getElem?_drop] using this
section
variable {H : Type} {enc : TypeId × Value → H} {W : World} {b : Nat} {sp : Nat → Bool} {held : Bool} {m : Nat}
theorem int_at {l : List Value} {o : Nat} {y : DataW H × List MemPlace} (h : DataW.trod enc Tryd.prog W b sp held m 3 ((l.drop o).take 1) = some y) : ∃ z, l[o]? = some (.int .i64 z) ∧ -9223372036854775808 ≤ z ∧ z ≤ 9223372036854775807 := by
  obtain ⟨z, hc, rfl, hw⟩ := DataW.trod_int Tryd.underlying3 h
  exact ⟨z, drop_one hc, wf64 hw⟩
theorem str_at {l : List Value} {o : Nat} {y : DataW H × List MemPlace} (h : DataW.trod enc Tryd.prog W b sp held m 9 ((l.drop o).take 1) = some y) : ∃ s, l[o]? = some (.string s) ∧ s.size ≤ maxLen := by
  obtain ⟨z, hc, rfl, hw⟩ := DataW.trod_string Tryd.underlying9 h
  exact ⟨z, drop_one hc, hw⟩
set_option maxRecDepth 100000 in
theorem tag_at {l : List Value} {y : DataW H × List MemPlace} (h : DataW.trod enc Tryd.prog W b sp held m 71 l = some y) : ∃ zs : List Int, l = v8 zs ∧ zs.length = 16 ∧ ∀ z ∈ zs, 0 ≤ z ∧ z < 256 := by
  have hct : Tryd.prog.cellsOf 71 = 16 := by kernel_rfl
  have hce : Tryd.prog.cellsOf 5 = 1 := by kernel_rfl
  cases m with
  | zero => simp [DataW.trod] at h
  | succ m =>
    simp only [DataW.trod, Tryd.underlying71, hce, hct, Nat.mul_one] at h
    split at h
    · rename_i hsz
      obtain ⟨xs, hm, hx⟩ := Option.map_eq_some_iff.1 h
      have key : ∀ i, i < 16 → ∃ z, l[i]? = some (.int .u8 z) ∧ 0 ≤ z ∧ z < 256 := fun i hi => by
        obtain ⟨y, hy, hf⟩ := Lib.mapM_at hm i i (by simp [hi])
        obtain ⟨z, hc, rfl, hw⟩ := DataW.trod_int Tryd.underlying5 hf
        refine ⟨z, drop_one hc, ?_⟩
        simp [Lit.wf, IntKind.min, IntKind.max, IntKind.signed, IntKind.bits] at hw
        omega
      refine ⟨l.map (fun v => match v with | .int _ z => z | _ => 0), ?_, by simpa using hsz, ?_⟩
      · apply List.ext_getElem?
        intro i
        by_cases hi : i < 16
        · obtain ⟨z, hz, _⟩ := key i hi
          simp only [v8, List.map_map, List.getElem?_map, hz, Option.map_some]
          rfl
        · rw [List.getElem?_eq_none (by omega), List.getElem?_eq_none (by simp [v8]; omega)]
      · intro z hz
        obtain ⟨u, hu, rfl⟩ := List.mem_map.1 hz
        obtain ⟨i, hi, rfl⟩ := List.mem_iff_getElem.1 hu
        obtain ⟨z, hz, hb⟩ := key i (by simpa [hsz] using hi)
        rw [List.getElem?_eq_getElem hi] at hz
        rw [Option.some.inj hz]
        exact hb
    · cases h
end
set_option maxRecDepth 100000 in
theorem open_req {H : Type} {enc : TypeId × Value → H} {W : World} {base b : Nat} {sp : Nat → Bool} {held : Bool} {fuel : Nat} {v : Value} {x : DataW H × List MemPlace} (hv : Value.okWide Tryd.prog W .any base 73 v)
    (h : DataW.trod enc Tryd.prog W b sp held fuel 73 v.cells.toList = some x) : ∃ (c n : Int) (s : ByteArray) (t : List Int), v = .agg (reqL c n s t).toArray ∧ t.length = 16 ∧ (∀ z ∈ t, 0 ≤ z ∧ z < 256) ∧ s.size ≤ maxLen ∧ (-9223372036854775808 ≤ c ∧ c ≤ 9223372036854775807) ∧ (-9223372036854775808 ≤ n ∧ n ≤ 9223372036854775807) := by
  unfold Value.okWide at hv
  rw [Tryd.underlying73] at hv
  obtain ⟨cs, rfl, hsz, _⟩ := hv
  have hct : Tryd.prog.cellsOf 73 = 19 := by kernel_rfl
  have hci : Tryd.prog.cellsOf 3 = 1 := by kernel_rfl
  have hcs : Tryd.prog.cellsOf 9 = 1 := by kernel_rfl
  have hcg : Tryd.prog.cellsOf 71 = 16 := by kernel_rfl
  rw [hct] at hsz
  obtain ⟨xs, m, _, rfl, _, hl, hf⟩ := DataW.trod_struct Tryd.underlying73 h
  have hl : xs.length = 4 := hl
  simp only [Value.cells] at hf
  have h0 : DataW.trod enc Tryd.prog W b sp held m 3 ((cs.toList.drop 0).take (Tryd.prog.cellsOf 3)) = xs[0]? := hf 0 _ rfl
  have h1 : DataW.trod enc Tryd.prog W b sp held m 3 ((cs.toList.drop 1).take (Tryd.prog.cellsOf 3)) = xs[1]? := hf 1 _ rfl
  have h2 : DataW.trod enc Tryd.prog W b sp held m 9 ((cs.toList.drop 2).take (Tryd.prog.cellsOf 9)) = xs[2]? := hf 2 _ rfl
  have h3 : DataW.trod enc Tryd.prog W b sp held m 71 ((cs.toList.drop 3).take (Tryd.prog.cellsOf 71)) = xs[3]? := hf 3 _ rfl
  rw [hci] at h0 h1
  rw [hcs] at h2
  rw [hcg] at h3
  obtain ⟨y0, e0⟩ := some_at hl (show 0 < 4 by omega)
  obtain ⟨y1, e1⟩ := some_at hl (show 1 < 4 by omega)
  obtain ⟨y2, e2⟩ := some_at hl (show 2 < 4 by omega)
  obtain ⟨y3, e3⟩ := some_at hl (show 3 < 4 by omega)
  obtain ⟨c, g0, bc⟩ := int_at (h0.trans e0)
  obtain ⟨n, g1, bn⟩ := int_at (h1.trans e1)
  obtain ⟨s, g2, hs⟩ := str_at (h2.trans e2)
  obtain ⟨t, g3, ht, hb⟩ := tag_at (h3.trans e3)
  refine ⟨c, n, s, t, ?_, ht, hb, hs, bc, bn⟩
  congr 1
  apply Array.ext'
  show cs.toList = reqL c n s t
  have hcl : cs.toList.length = 19 := by simpa using hsz
  generalize cs.toList = l at *
  match l, hcl with
  | a0 :: a1 :: a2 :: l, hcl =>
    simp at g0 g1 g2 hcl
    have : List.take 16 l = v8 t := g3
    rw [List.take_of_length_le (by omega)] at this
    subst g0 g1 g2 this
    rfl
end Go.Proofs.YtogmkcabndgllaaDoor
namespace Go.Proofs.YtogmkcabndgllaaDoor
open Go.ChangeShapes Go.WideShapes Go.ChangeAt Go.RowKit
open Sha Tal
structure Rq where
  c : Int
  n : Int
  s : ByteArray
  t : List Int
deriving Inhabited
structure Rq.ok (r : Rq) : Prop where
  tl : r.t.length = 16
  tb : ∀ z ∈ r.t, 0 ≤ z ∧ z < 256
  sl : r.s.size ≤ maxLen
  cl : -9223372036854775808 ≤ r.c
  ch : r.c ≤ 9223372036854775807
  nl : -9223372036854775808 ≤ r.n
  nh : r.n ≤ 9223372036854775807
def Rq.cells (r : Rq) : List Value := reqL r.c r.n r.s r.t
theorem Rq.ok.length {r : Rq} (h : r.ok) : r.cells.length = 19 := by
  have := h.tl
  simp [Rq.cells, reqL, v8]
  omega
theorem Rq.one (r : Rq) : ∀ v ∈ r.cells, v.oneCell' = true := reqL_one _ _ _ _
def flatR (rs : List Rq) : List Value := rs.flatMap Rq.cells
theorem flatR_length {rs : List Rq} (h : ∀ r ∈ rs, r.ok) : (flatR rs).length = rs.length * 19 := by
  induction rs with
  | nil => rfl
  | cons r rs ih =>
    have h1 := (h r (by simp)).length
    have h2 := ih (fun x hx => h x (by simp [hx]))
    simp only [flatR, List.flatMap_cons, List.length_append, List.length_cons] at *
    omega
theorem flatR_append (a b : List Rq) : flatR (a ++ b) = flatR a ++ flatR b := by simp [flatR]
theorem flatR_one (rs : List Rq) : ∀ v ∈ flatR rs, v.oneCell' = true := fun v hv => by
  obtain ⟨r, _, h⟩ := List.mem_flatMap.1 hv
  exact r.one v h
/-- a slice of requests -/
def ReqsAt (w : World) (a : Option Addr) (rs : List Rq) : Prop :=
  rs.length ≤ maxLen ∧ (∀ r ∈ rs, r.ok) ∧ (rs = [] ∨ ∃ b off, a = some ⟨b, off, none⟩ ∧ b < w.heap.size ∧ w.rangeAt b off (flatR rs))
theorem ReqsAt.below {w w' : World} {a : Option Addr} {rs : List Rq} (h : ReqsAt w a rs) (hb : Below w.heap.size w w') : ReqsAt w' a rs := by
  refine ⟨h.1, h.2.1, ?_⟩
  rcases h.2.2 with h | ⟨b, off, rfl, h1, h2⟩
  · exact Or.inl h
  · exact Or.inr ⟨b, off, rfl, Nat.lt_of_lt_of_le h1 hb.size, range_below h2 hb h1⟩
theorem ReqsAt.belowN {w w' : World} {a : Option Addr} {rs : List Rq} {n : Nat} (h : ReqsAt w a rs) (hb : Below n w w') (hn : ∀ x, a = some x → x.block < n) : ReqsAt w' a rs := by
  refine ⟨h.1, h.2.1, ?_⟩
  rcases h.2.2 with h | ⟨b, off, rfl, h1, h2⟩
  · exact Or.inl h
  · exact Or.inr ⟨b, off, rfl, Nat.lt_of_lt_of_le h1 hb.size, range_below h2 hb (hn _ rfl)⟩
theorem ReqsAt.drew {w : World} {a : Option Addr} {rs : List Rq} (h : ReqsAt w a rs) : ReqsAt w.drew a rs := by
  refine ⟨h.1, h.2.1, ?_⟩
  rcases h.2.2 with h | ⟨b, off, rfl, h1, h2⟩
  · exact Or.inl h
  · exact Or.inr ⟨b, off, rfl, h1, (World.rangeAt_drew _ _ _ _).2 h2⟩
theorem flatR_split (rs : List Rq) (i : Nat) (hi : i < rs.length) : flatR rs = flatR (rs.take i) ++ rs[i].cells ++ flatR (rs.drop (i + 1)) := by
  have e : rs.take i ++ (rs[i] :: rs.drop (i + 1)) = rs := by rw [← List.drop_eq_getElem_cons hi, List.take_append_drop]
  have e2 := congrArg flatR e
  rw [← e2]
  simp only [flatR, List.flatMap_append, List.flatMap_cons, List.append_assoc]
theorem ReqsAt.elem {w : World} {a : Option Addr} {rs : List Rq} (h : ReqsAt w a rs) (i : Nat) (hi : i < rs.length) : ∃ b off, a = some ⟨b, off, none⟩ ∧ b < w.heap.size ∧ w.rangeAt b (off + i * 19) rs[i].cells := by
  rcases h.2.2 with h0 | ⟨b, off, rfl, h1, h2⟩
  · subst h0; simp at hi
  · refine ⟨b, off, rfl, h1, ?_⟩
    rw [flatR_split rs i hi] at h2
    have h3 := range_part h2
    rwa [flatR_length (fun r hr => h.2.1 r (List.mem_of_mem_take hr)), List.length_take, Nat.min_eq_left (by omega)] at h3
theorem ReqsAt.none {w : World} {a : Option Addr} : ReqsAt w a [] := ⟨by simp, by simp, .inl rfl⟩
set_option maxRecDepth 100000 in
theorem req_of {H : Type} {enc : TypeId × Value → H} {W : World} {b : Nat} {sp : Nat → Bool} {held : Bool} {fuel : Nat} {l : List Value} {x : DataW H × List MemPlace}
    (h : DataW.trod enc Tryd.prog W b sp held fuel 73 l = some x) : ∃ r : Rq, l = r.cells ∧ r.ok := by
  have hct : Tryd.prog.cellsOf 73 = 19 := by kernel_rfl
  have hci : Tryd.prog.cellsOf 3 = 1 := by kernel_rfl
  have hcs : Tryd.prog.cellsOf 9 = 1 := by kernel_rfl
  have hcg : Tryd.prog.cellsOf 71 = 16 := by kernel_rfl
  obtain ⟨xs, m, _, rfl, hcl, hl, hf⟩ := DataW.trod_struct Tryd.underlying73 h
  rw [hct] at hcl
  have hl : xs.length = 4 := hl
  have h0 : DataW.trod enc Tryd.prog W b sp held m 3 ((l.drop 0).take (Tryd.prog.cellsOf 3)) = xs[0]? := hf 0 _ rfl
  have h1 : DataW.trod enc Tryd.prog W b sp held m 3 ((l.drop 1).take (Tryd.prog.cellsOf 3)) = xs[1]? := hf 1 _ rfl
  have h2 : DataW.trod enc Tryd.prog W b sp held m 9 ((l.drop 2).take (Tryd.prog.cellsOf 9)) = xs[2]? := hf 2 _ rfl
  have h3 : DataW.trod enc Tryd.prog W b sp held m 71 ((l.drop 3).take (Tryd.prog.cellsOf 71)) = xs[3]? := hf 3 _ rfl
  rw [hci] at h0 h1
  rw [hcs] at h2
  rw [hcg] at h3
  obtain ⟨y0, e0⟩ := some_at hl (show 0 < 4 by omega)
  obtain ⟨y1, e1⟩ := some_at hl (show 1 < 4 by omega)
  obtain ⟨y2, e2⟩ := some_at hl (show 2 < 4 by omega)
  obtain ⟨y3, e3⟩ := some_at hl (show 3 < 4 by omega)
  obtain ⟨c, g0, bc⟩ := int_at (h0.trans e0)
  obtain ⟨n, g1, bn⟩ := int_at (h1.trans e1)
  obtain ⟨s, g2, hs⟩ := str_at (h2.trans e2)
  obtain ⟨t, g3, ht, hb⟩ := tag_at (h3.trans e3)
  refine ⟨⟨c, n, s, t⟩, ?_, ⟨ht, hb, hs, bc.1, bc.2, bn.1, bn.2⟩⟩
  show l = reqL c n s t
  match l, hcl with
  | a0 :: a1 :: a2 :: l, hcl =>
    simp at g0 g1 g2 hcl
    have : List.take 16 l = v8 t := g3
    rw [List.take_of_length_le (by omega)] at this
    subst g0 g1 g2 this
    rfl
theorem cells_some {w : World} {base n : Nat} {x : Addr} {cs : List Value} (h : w.cells? base x n = some cs) : cs.length = n ∧ ∀ j v, cs[j]? = some v → w.cell? (x.add j) = some v := by
  unfold World.cells? at h
  split at h
  · have hl := Lib.mapM_length h
    refine ⟨by simpa using hl, fun j v hv => ?_⟩
    have hj : j < n := by
      have := (List.getElem?_eq_some_iff.1 hv).1
      have : cs.length = n := by simpa using hl
      omega
    obtain ⟨y, hy, hf⟩ := Lib.mapM_at h j j (by simp [hj])
    rw [hv] at hy
    exact hf.trans hy.symm
  · cases h
theorem flatR_get (R : Nat → Rq) (hR : ∀ i, (R i).cells.length = 19) : ∀ (n j : Nat), j < n * 19 → (flatR ((List.range n).map R))[j]? = (R (j / 19)).cells[j % 19]? := by
  intro n
  induction n with
  | zero => intro j hj; omega
  | succ n ih =>
    intro j hj
    have hl : (flatR ((List.range n).map R)).length = n * 19 := by
      clear ih hj
      induction n with
      | zero => rfl
      | succ n ih => rw [List.range_succ, List.map_append, flatR_append, List.length_append, ih]; simp [flatR, hR]; omega
    rw [List.range_succ, List.map_append, flatR_append]
    by_cases h : j < n * 19
    · rw [List.getElem?_append_left (by omega), ih j h]
    · rw [List.getElem?_append_right (by omega), hl]
      have e1 : j / 19 = n := by omega
      have e2 : j % 19 = j - n * 19 := by omega
      rw [e1, e2]
      simp [flatR]
set_option maxRecDepth 100000 in
theorem reqs_of {H : Type} {enc : TypeId × Value → H} {W : World} {b : Nat} {sp : Nat → Bool} {held : Bool} {fuel : Nat} {l : List Value} {x : DataW H × List MemPlace}
    (h : DataW.trod enc Tryd.prog W b sp held fuel 22 l = some x) : ∃ (a : Option Addr) (cap : Nat) (rs : List Rq), l = [.slice a rs.length cap] ∧ rs.length ≤ cap ∧ cap ≤ maxLen ∧ ReqsAt W a rs := by
  have hct : Tryd.prog.cellsOf 73 = 19 := by kernel_rfl
  rcases Deep.open_slice Tryd.underlying22 h with ⟨rfl, _⟩ | ⟨a, len, cap, m, n, D, Pl, rfl, hb, hlc, hcm, hm, _, hel⟩
  · exact ⟨none, 0, [], rfl, by simp, by simp, ReqsAt.none⟩
  · rw [hct] at hel
    have hml : len ≤ m := by rw [hm]; split <;> omega
    have key : ∀ i, i < len → ∃ r : Rq, W.cells? b (a.add (i * 19)) 19 = some r.cells ∧ r.ok := fun i hi => by
      obtain ⟨cs, h1, h2⟩ := hel i (by omega)
      obtain ⟨r, rfl, hr⟩ := req_of h2
      exact ⟨r, h1, hr⟩
    obtain ⟨R0, hR0⟩ := Deep.choose_lt key
    obtain ⟨R, hRe⟩ : ∃ R : Nat → Rq, R = fun i => if i < len then R0 i else ⟨0, 0, ⟨#[]⟩, List.replicate 16 0⟩ := ⟨_, rfl⟩
    have hR : ∀ i, i < len → W.cells? b (a.add (i * 19)) 19 = some (R i).cells ∧ (R i).ok := fun i hi => by
      rw [hRe]; simp only [hi, if_true]; exact hR0 i hi
    have hRl : ∀ i, (R i).cells.length = 19 := fun i => by
      by_cases hi : i < len
      · exact (hR i hi).2.length
      · rw [hRe]; simp [hi, Rq.cells, reqL, v8]
    refine ⟨some a, cap, (List.range len).map R, by simp, by simpa using hlc, hcm, by simp; omega, ?_, ?_⟩
    · intro r hr
      obtain ⟨i, hi, rfl⟩ := List.mem_map.1 hr
      exact (hR i (List.mem_range.1 hi)).2
    · by_cases h0 : len = 0
      · left; simp [h0]
      · right
        obtain ⟨bb, off, spot⟩ := a
        have hc := (cells_some (hR 0 (by omega)).1).2 0 (.int .i64 (R 0).c) rfl
        have hspot : spot = none := by simpa [Addr.add] using World.cell?_spot hc
        subst hspot
        refine ⟨bb, off, rfl, ?_, fun j v hv => ?_⟩
        · have := World.block_lt_of_cell? W _ hc; simpa [Addr.add] using this
        · have hj : j < len * 19 := by
            have := (List.getElem?_eq_some_iff.1 hv).1
            rw [flatR_length] at this
            · simpa using this
            · intro r hr
              obtain ⟨i, hi, rfl⟩ := List.mem_map.1 hr
              exact (hR i (List.mem_range.1 hi)).2
          rw [flatR_get R hRl len j hj] at hv
          have := (cells_some (hR (j / 19) (by omega)).1).2 _ _ hv
          rw [Addr.add_mid, Addr.add_mid] at this
          rw [← this]
          congr 2
          omega
def batV (b : Bool) (a : Option Addr) (n cap : Nat) : Value := .agg #[.bool b, .slice a n cap]
set_option maxRecDepth 100000 in
theorem open_batch {H : Type} {enc : TypeId × Value → H} {W : World} {base b : Nat} {sp : Nat → Bool} {held : Bool} {fuel : Nat} {v : Value} {x : DataW H × List MemPlace} (hv : Value.okWide Tryd.prog W .any base 24 v)
    (h : DataW.trod enc Tryd.prog W b sp held fuel 24 v.cells.toList = some x) : ∃ (q : Bool) (a : Option Addr) (cap : Nat) (rs : List Rq), v = batV q a rs.length cap ∧ rs.length ≤ cap ∧ cap ≤ maxLen ∧ ReqsAt W a rs := by
  unfold Value.okWide at hv
  rw [Tryd.underlying24] at hv
  obtain ⟨cs, rfl, hsz, _⟩ := hv
  have hct : Tryd.prog.cellsOf 24 = 2 := by kernel_rfl
  have hci : Tryd.prog.cellsOf 4 = 1 := by kernel_rfl
  have hcs : Tryd.prog.cellsOf 22 = 1 := by kernel_rfl
  rw [hct] at hsz
  obtain ⟨xs, m, _, rfl, _, hl, hf⟩ := DataW.trod_struct Tryd.underlying24 h
  have hl : xs.length = 2 := hl
  simp only [Value.cells] at hf
  have h0 : DataW.trod enc Tryd.prog W b sp held m 4 ((cs.toList.drop 0).take (Tryd.prog.cellsOf 4)) = xs[0]? := hf 0 _ rfl
  have h1 : DataW.trod enc Tryd.prog W b sp held m 22 ((cs.toList.drop 1).take (Tryd.prog.cellsOf 22)) = xs[1]? := hf 1 _ rfl
  rw [hci] at h0
  rw [hcs] at h1
  obtain ⟨y0, e0⟩ := some_at hl (show 0 < 2 by omega)
  obtain ⟨y1, e1⟩ := some_at hl (show 1 < 2 by omega)
  obtain ⟨q, g0, _⟩ := DataW.trod_bool Tryd.underlying4 (h0.trans e0)
  obtain ⟨a, cap, rs, g1, k1, k2, k3⟩ := reqs_of (h1.trans e1)
  refine ⟨q, a, cap, rs, ?_, k1, k2, k3⟩
  unfold batV
  congr 1
  apply Array.ext'
  have hcl : cs.toList.length = 2 := by simpa using hsz
  have g0 := drop_one g0
  have g1 := drop_one g1
  generalize cs.toList = l at *
  match l, hcl with
  | [a0, a1], _ =>
    simp at g0 g1
    subst g0 g1
    rfl
end Go.Proofs.YtogmkcabndgllaaDoor
namespace Go.Proofs.YtogmkcabndgllaaDoor
open Go.RowKit
open Sha Tal
theorem Mine.mono' {w : World} {B B' : Nat} {v : Value} {zs : List Int} (h : Mine w B v zs) (hb : B' ≤ B) : Mine w B' v zs := by
  refine ⟨⟨h.1.1, ?_⟩, h.2⟩
  rcases h.1.2 with h | ⟨g, cap, cur, hv, hg, r⟩
  · exact .inl h
  · exact .inr ⟨g, cap, cur, hv, Nat.le_trans hb hg, r⟩
set_option maxRecDepth 100000 in
set_option maxHeartbeats 2000000 in
theorem rput_any (a : Option Addr) (cap : Nat) (zs : List Int) (c n : Int) (s : ByteArray) (t : List Int) (w : World) (h : RowAt w a zs) (hz : zs.length ≤ 1000000) (ht : t.length = 16) (htb : ∀ z ∈ t, 0 ≤ z ∧ z < 256) (hc : c ≤ 9223372036854775807) (hn : n ≤ 9223372036854775807) (hs : s.size ≤ 1000000) :
   Calls Tryd.prog 45 #[.slice a zs.length cap, .agg (reqL c n s t).toArray] w fun e w' => ∃ v, e = .returned v ∧ Mine w' w.heap.size v (zs ++ (putL c ++ putL n ++ textL s) ++ t) ∧ Below w.heap.size w w' := by
  obtain ⟨i0, hi, hz0, hz1, hz2⟩ := info_parts info8
  have hB1 : Below w.heap.size w (w.alloc (.cells (reqL c n s t).toArray 73)) := (Below.refl _ _).alloc (Nat.le_refl _) _
  have hR1 := req_cells w c n s t
  have hz1' : w.heap.size < (w.alloc (.cells (reqL c n s t).toArray 73)).heap.size := by simp
  have hiq : (Tryd.prog.info? 73).map (·.size) = some (reqL c n s t).length := by rw [reqL_length c n s t ht]; exact iszR
  have cf := fun w0 => fields_any none 0 [] c n s t w0 (nil_row w0) (by simp) hc hn hs
  simp only [List.nil_append, List.length_nil] at cf
  have htg := fun (w0 : World) (b0 : Nat) h1 => @reqL_tag w0 b0 c n s t h1
  have lF : (putL c ++ putL n ++ textL s).length ≤ 1000100 := by
    have h1 := putL_length c (by omega)
    have h2 := putL_length n (by omega)
    have h3 := putL_length s.size (by omega)
    simp only [textL, List.length_append, strL_length]
    omega
  obtain ⟨F, hF⟩ : ∃ F, Hid (putL c ++ putL n ++ textL s = F) := ⟨_, hide rfl⟩
  simp only [hF.out] at cf
  rw [hF.out] at lF ⊢
  obtain ⟨q, hq⟩ : ∃ q, Hid (reqL c n s t = q) := ⟨_, hide rfl⟩
  rw [hq.out] at hB1 hR1 hz1' hiq ⊢
  simp only [hq.out] at cf htg
  go_enter Tryd.func45, Tryd.ntmps45
  go_upto_region 1 with fail
  go_name_world w1 hw1
  rw [hw1] at hB1 hR1 hz1'
  clear hw1
  obtain ⟨X, hX⟩ : ∃ X, Hid (w.heap.size = X) := ⟨_, hide rfl⟩
  rw [hX.out] at hR1 hz1' ⊢
  try simp only [Act.put]
  refine wp_region_list ?_
  refine wpList_load_mid rfl 73 _ rfl _ _ rfl q _ hR1 Tryd.underlying73 rfl hiq ?_
  go_wp2_with fail
  refine (cf w1).mono ?_
  rintro e w2 ⟨v2, rfl, m2, hw2⟩
  have hB2 := hB1.trans (hw2.mono hB1.size)
  have hR2 := range_below hR1 hw2 hz1'
  have hX2 := Nat.lt_of_lt_of_le hz1' hw2.size
  obtain ⟨a2, cap2, rfl, _, _, row2⟩ := m2.rowAt (by unfold maxLen; omega)
  have mF := m2.2
  clear cf m2 hw2 hB1 hR1 hz1'
  go_wp2_with (first
    | refine wpList_make_own _ rfl _ _ 80 rfl w2.heap.size 5 i0 (.int .u8 0) 1 Tryd.underlying80 hi hz0 hz1 .i64 .i64 _ (zs.length + F.length + 16) rfl rfl ?d1 ?d2 ?d3 ?d4 ?_)
  case d1 => omega
  case d2 => rw [hz2]; omega
  case d3 => unfold maxLen; omega
  case d4 => exact Nat.le_refl _
  intro w3 hown3 hgrow3
  have hb3 : Below w2.heap.size w2 w3 := (Below.refl _ _).grown hgrow3 (Nat.le_refl _) (fun k hk => by cases hk)
  go_wp2_with (at_builtin; refine wpList_append_own_src _ rfl _ _ 80 80 rfl w2.heap.size 5 i0 (.int .u8 0) 1 1 Tryd.underlying80 hi hz0 hz1 hz2 rfl _ 0 [] rfl hown3 (.slice a zs.length cap) zs.length (v8 zs) rfl ((h.below (hB2.trans (hb3.mono hB2.size))).src cap) ?c1 ?c2 ?c3 ?_)
  case c1 => unfold maxLen; omega
  case c2 => omega
  case c3 => exact hb3.size
  intro v4 w4 hown4 hgrow4
  have hb4 := below_grown hb3 hb3.size hown3 hgrow4
  have hown4' : w4.ownsRow w2.heap.size 5 1 v4 zs.length (v8 zs) := by simpa using hown4
  obtain ⟨b4, cp4, rfl⟩ : ∃ b cp, v4 = .slice b zs.length cp := by
    rcases hown4'.2 with ⟨rfl, h0⟩ | ⟨g, cp, cur, rfl, _⟩
    · exact ⟨none, 0, by rw [h0]⟩
    · exact ⟨_, _, rfl⟩
  clear hown3 hgrow3 hown4 hgrow4 hb3
  go_wp2_with (at_builtin; refine wpList_append_own_src _ rfl _ _ 80 80 rfl w2.heap.size 5 i0 (.int .u8 0) 1 1 Tryd.underlying80 hi hz0 hz1 hz2 rfl _ zs.length (v8 zs) rfl hown4' (.slice a2 F.length cap2) F.length (v8 F) rfl ((row2.below hb4).src cap2) ?c1 ?c2 ?c3 ?_)
  case c1 => unfold maxLen; omega
  case c2 => omega
  case c3 => exact hb4.size
  intro v5 w5 hown5 hgrow5
  have hb5 := below_grown hb4 hb4.size hown4' hgrow5
  obtain ⟨b5, cp5, rfl⟩ : ∃ b cp, v5 = .slice b (zs.length + F.length) cp := by
    rcases hown5.2 with ⟨rfl, h0⟩ | ⟨g, cp, cur, rfl, _⟩
    · exact ⟨none, 0, by rw [h0]⟩
    · exact ⟨_, _, rfl⟩
  have hR5 := htg w5 X (range_below hR2 hb5 hX2)
  have hX5 := Nat.lt_of_lt_of_le hX2 hb5.size
  have rowT : RowAt w5 (some ⟨X, 3, none⟩) t := ⟨by unfold maxLen; omega, htb, Or.inr ⟨X, 3, rfl, hX5, hR5⟩⟩
  have srcT := rowT.src 16
  rw [ht] at srcT
  have hsl := fun w0 => slice_all (P := Tryd.prog) Tryd.underlying71 isz8 X 3 (by decide) w0
  clear hown4' hgrow5 hb4 row2 hR2
  go_wp2_with (at_builtin; refine wpList_append_own_src _ rfl _ _ 80 80 rfl w2.heap.size 5 i0 (.int .u8 0) 1 1 Tryd.underlying80 hi hz0 hz1 hz2 rfl _ (zs.length + F.length) (v8 zs ++ v8 F) rfl hown5 (.slice (some ⟨X, 3, none⟩) 16 16) 16 (v8 t) rfl srcT ?c1 ?c2 ?c3 ?_)
  case c1 => unfold maxLen; omega
  case c2 => omega
  case c3 => exact hb5.size
  intro v6 w6 hown6 hgrow6
  have hb6 := below_grown hb5 hb5.size hown5 hgrow6
  go_wp2_with fail
  go_ret
  refine ⟨_, rfl, ?_, hB2.trans (hb6.mono hB2.size)⟩
  have hm := Mine.mk' (zs ++ F ++ t) hown6 (by simp [ht]; omega) (by simp [v8]) (by
    intro z hz'
    rcases List.mem_append.1 hz' with hz' | hz'
    · rcases List.mem_append.1 hz' with hz' | hz'
      · exact h.2.1 z hz'
      · exact mF z hz'
    · exact htb z hz')
  exact hm.mono' hB2.size
end Go.Proofs.YtogmkcabndgllaaDoor
namespace Go.Proofs.YtogmkcabndgllaaDoor
open Go.RowKit
open Sha Tal
set_option maxRecDepth 100000 in
set_option maxHeartbeats 2000000 in
theorem refRPut_any (a : Option Addr) (cap : Nat) (zs : List Int) (c n : Int) (s : ByteArray) (t : List Int) (w : World) (h : RowAt w a zs) (hz : zs.length ≤ 1000000) (ht : t.length = 16) (htb : ∀ z ∈ t, 0 ≤ z ∧ z < 256) (hc : c ≤ 9223372036854775807) (hn : n ≤ 9223372036854775807) (hs : s.size ≤ 100000) :
   Calls Tryd.prog 40 #[.slice a zs.length cap, .agg (reqL c n s t).toArray] w fun e w' => ∃ v, e = .returned v ∧ Mine w' w.heap.size v (zs ++ (putL c ++ putL n ++ textL s) ++ t) ∧ Below w.heap.size w w' := by
  obtain ⟨i0, hi, hz0, hz1, hz2⟩ := info_parts info8
  have hB1 : Below w.heap.size w (w.alloc (.cells (reqL c n s t).toArray 73)) := (Below.refl _ _).alloc (Nat.le_refl _) _
  have hR1 := req_cells w c n s t
  have hz1' : w.heap.size < (w.alloc (.cells (reqL c n s t).toArray 73)).heap.size := by simp
  have hq0 := fun (w0 : World) (b0 : Nat) h0 => @reqL_0 w0 b0 c n s t h0
  have htg := fun (w0 : World) (b0 : Nat) h1 => @reqL_tag w0 b0 c n s t h1
  have l1 := putL_length c (by omega)
  have l2 := putL_length n (by omega)
  have l3 := putL_length s.size (by omega)
  have c1 := fun w0 h0 => refPut_any a cap zs c w0 h0 (by omega) hc
  have c2 := fun a0 cap0 w0 h0 => refPut_any a0 cap0 (zs ++ putL c) n w0 h0 (by rw [List.length_append]; omega) hn
  have c3 := fun a0 cap0 w0 h0 => refPutText_any a0 cap0 (zs ++ putL c ++ putL n) s w0 h0 (by rw [List.length_append, List.length_append]; omega) (by omega)
  have e1 : (zs ++ putL c).length ≤ 1000100 := by rw [List.length_append]; omega
  have e2 : (zs ++ putL c ++ putL n).length ≤ 1000200 := by rw [List.length_append, List.length_append]; omega
  have e3 : (zs ++ putL c ++ putL n ++ textL s).length ≤ 2000000 := by simp only [textL, List.length_append, strL_length]; omega
  obtain ⟨L1, hL1⟩ : ∃ L1, Hid (zs ++ putL c = L1) := ⟨_, hide rfl⟩
  simp only [hL1.out] at c1 c2 c3
  rw [hL1.out] at e1 e2 e3
  obtain ⟨L2, hL2⟩ : ∃ L2, Hid (L1 ++ putL n = L2) := ⟨_, hide rfl⟩
  simp only [hL2.out] at c2 c3
  rw [hL2.out] at e2 e3
  obtain ⟨L3, hL3⟩ : ∃ L3, Hid (L2 ++ textL s = L3) := ⟨_, hide rfl⟩
  simp only [hL3.out] at c3
  rw [hL3.out] at e3
  clear l1 l2 l3
  obtain ⟨q, hq⟩ : ∃ q, Hid (reqL c n s t = q) := ⟨_, hide rfl⟩
  rw [hq.out] at hB1 hR1 hz1' ⊢
  simp only [hq.out] at hq0 htg
  go_enter Tryd.func40, Tryd.ntmps40
  go_upto_region 1 with fail
  go_name_world w1 hw1
  rw [hw1] at hB1 hR1 hz1'
  clear hw1
  obtain ⟨X, hX⟩ : ∃ X, Hid (w.heap.size = X) := ⟨_, hide rfl⟩
  rw [hX.out] at hR1 hz1' ⊢
  have hB4 := hB1.drew
  have hR4 : w1.drew.rangeAt X 0 q := (World.rangeAt_drew _ _ _ _).2 hR1
  have hX4 : X < w1.drew.heap.size := hz1'
  clear hB1 hR1 hz1'
  try simp only [Act.put]
  obtain ⟨w5, hw5⟩ : ∃ w5, w1.drew = w5 := ⟨_, rfl⟩
  rw [hw5] at hB4 hR4 hX4
  refine hs_begin (S := (Below w5.heap.size w5)) 11 rfl (by kernel_rfl) ?_
  rw [hw5]
  clear hw5
  have hS : (Below w5.heap.size w5) w5 := Below.refl _ _
  have qc : ∀ w', Below w5.heap.size w5 w' → w'.cell? ⟨X, 0, none⟩ = some (.int .i64 c) := fun w' hw' => (hq0 w' X (range_below hR4 hw' hX4)).1
  have qn : ∀ w', Below w5.heap.size w5 w' → w'.cell? ⟨X, 1, none⟩ = some (.int .i64 n) := fun w' hw' => (hq0 w' X (range_below hR4 hw' hX4)).2.1
  have qs : ∀ w', Below w5.heap.size w5 w' → w'.cell? ⟨X, 2, none⟩ = some (.string s) := fun w' hw' => (hq0 w' X (range_below hR4 hw' hX4)).2.2
  refine hs_take (i := 0) (d := some 6) (v := ?_) rfl (by kernel_rfl) (by kernel_rfl) (by kernel_rfl) (by rfl) ?_ hS rfl ?_
  rotate_left
  · intro w' hw
    go_simp
    try with_reducible rfl
  simp only [Act.put, List.setIfInBounds_toArray, List.set_cons_zero, List.set_cons_succ]
  refine hs_take (i := 1) (d := some 7) (v := ?_) rfl (by kernel_rfl) (by kernel_rfl) (by kernel_rfl) (by rfl) ?_ hS rfl ?_
  rotate_left
  · intro w' hw
    go_simp
    try with_reducible rfl
  simp only [Act.put, List.setIfInBounds_toArray, List.set_cons_zero, List.set_cons_succ]
  refine hs_take (i := 2) (d := some 8) (v := ?_) rfl (by kernel_rfl) (by kernel_rfl) (by kernel_rfl) (by rfl) ?_ hS rfl ?_
  rotate_left
  · intro w' hw
    have h := qc w' hw
    go_simp
    try with_reducible rfl
  simp only [Act.put, List.setIfInBounds_toArray, List.set_cons_zero, List.set_cons_succ]
  refine hs_take (i := 4) (d := some 10) (v := ?_) rfl (by kernel_rfl) (by kernel_rfl) (by kernel_rfl) (by rfl) ?_ hS rfl ?_
  rotate_left
  · intro w' hw
    go_simp
    try with_reducible rfl
  simp only [Act.put, List.setIfInBounds_toArray, List.set_cons_zero, List.set_cons_succ]
  refine hs_take (i := 5) (d := some 11) (v := ?_) rfl (by kernel_rfl) (by kernel_rfl) (by kernel_rfl) (by rfl) ?_ hS rfl ?_
  rotate_left
  · intro w' hw
    have h := qn w' hw
    go_simp
    try with_reducible rfl
  simp only [Act.put, List.setIfInBounds_toArray, List.set_cons_zero, List.set_cons_succ]
  refine hs_take (i := 7) (d := some 13) (v := ?_) rfl (by kernel_rfl) (by kernel_rfl) (by kernel_rfl) (by rfl) ?_ hS rfl ?_
  rotate_left
  · intro w' hw
    go_simp
    try with_reducible rfl
  simp only [Act.put, List.setIfInBounds_toArray, List.set_cons_zero, List.set_cons_succ]
  refine hs_take (i := 8) (d := some 14) (v := ?_) rfl (by kernel_rfl) (by kernel_rfl) (by kernel_rfl) (by rfl) ?_ hS rfl ?_
  rotate_left
  · intro w' hw
    have h := qs w' hw
    go_simp
    try with_reducible rfl
  simp only [Act.put, List.setIfInBounds_toArray, List.set_cons_zero, List.set_cons_succ]
  refine hs_call (i := 3) (d := some 9) rfl (by kernel_rfl) (by rfl) (by go_simp; first | done | exact ⟨rfl, rfl⟩ | with_reducible rfl) rfl ?_
  refine (c1 w5 (h.below hB4)).mono ?_
  rintro e' w6 ⟨v1, rfl, m1, hw6⟩
  have hS : (Below w5.heap.size w5) w6 := hS.trans (hw6.mono hS.size)
  refine ⟨_, rfl, hS, ?_⟩
  simp only [Act.put, List.setIfInBounds_toArray, List.set_cons_zero, List.set_cons_succ]
  obtain ⟨a1, cap1, rfl, _, _, row1⟩ := m1.rowAt (by unfold maxLen; omega)
  clear m1 c1
  refine hs_call (i := 6) (d := some 12) rfl (by kernel_rfl) (by rfl) (by go_simp; first | done | exact ⟨rfl, rfl⟩ | with_reducible rfl) rfl ?_
  refine (c2 a1 cap1 w6 row1).mono ?_
  rintro e' w7 ⟨v2, rfl, m2, hw7⟩
  have hS : (Below w5.heap.size w5) w7 := hS.trans (hw7.mono hS.size)
  refine ⟨_, rfl, hS, ?_⟩
  simp only [Act.put, List.setIfInBounds_toArray, List.set_cons_zero, List.set_cons_succ]
  obtain ⟨a2, cap2, rfl, _, _, row2⟩ := m2.rowAt (by unfold maxLen; omega)
  clear m2 c2 row1
  refine hs_call (i := 9) (d := some 15) rfl (by kernel_rfl) (by rfl) (by go_simp; first | done | exact ⟨rfl, rfl⟩ | with_reducible rfl) rfl ?_
  refine (c3 a2 cap2 w7 row2).mono ?_
  rintro e' w8 ⟨v3, rfl, m3, hw8⟩
  have hS : (Below w5.heap.size w5) w8 := hS.trans (hw8.mono hS.size)
  refine ⟨_, rfl, hS, ?_⟩
  simp only [Act.put, List.setIfInBounds_toArray, List.set_cons_zero, List.set_cons_succ]
  have hB8 := hB4.trans (hS.mono hB4.size)
  have hm8 := m3.mono' (B' := X + 1) (by have := hw6.size; have := hw7.size; omega)
  have hR8 := htg w8 X (range_below hR4 hS hX4)
  have hX8 := Nat.lt_of_lt_of_le hX4 hS.size
  clear c3 row2 m3 hw7 hw8
  refine hs_take (i := 10) (d := some 0) (v := ?_) rfl (by kernel_rfl) (by kernel_rfl) (by kernel_rfl) (by rfl) ?_ hS rfl ?_
  rotate_left
  · intro w' hw
    go_simp
    try with_reducible rfl
  simp only [Act.put, List.setIfInBounds_toArray, List.set_cons_zero]
  refine hs_done (by kernel_rfl) ?_
  clear hS qc qn qs hq0 hR4 hX4 hB4 hw6
  have eL : Hid (L3 = zs ++ (putL c ++ putL n ++ textL s)) := by show _ = _; rw [← hL3.out, ← hL2.out, ← hL1.out]; simp
  have hwX : w.heap.size ≤ X := by rw [hX.out]; exact Nat.le_refl _
  obtain ⟨a3, cap3, rfl⟩ : ∃ a cp, v3 = .slice a L3.length cp := by
    rcases hm8.1.2 with ⟨rfl, h0⟩ | ⟨g, cp, cur, rfl, _⟩
    · exact ⟨none, 0, by rw [h0]⟩
    · exact ⟨_, _, rfl⟩
  go_wp2_with fail
  go_loopw [0, 5] (fun v kv wr => ∃ k : Nat, k ≤ 16 ∧ kv = .int .i64 (k : Int) ∧ Mine wr (X + 1) v (L3 ++ t.take k) ∧ Below (X + 1) w8 wr) (fun _ kv _ => 16 - (intOf kv).toNat)
  case atStart => exact ⟨0, by omega, rfl, by simpa using hm8, Below.refl _ _⟩
  case round =>
    clear hm8
    obtain ⟨k, hk, rfl, hm, hB⟩ := hrel
    have lk : (L3 ++ t.take k).length ≤ 2000100 := by rw [List.length_append, List.length_take]; omega
    by_cases hlt : k < 16
    · have hkt : k < t.length := by omega
      have hR := range_below hR8 hB (by omega)
      have hcx := get8 hR hkt
      have hbx := htb _ (List.getElem_mem hkt)
      have hnx : Hid (L3 ++ t.take (k + 1) = (L3 ++ t.take k) ++ [t[k]]) := by show _ = _; rw [List.take_succ_eq_append_getElem hkt, List.append_assoc]
      have egd : t.getD k 0 = t[k] := by rw [List.getD_eq_getElem?_getD, List.getElem?_eq_getElem hkt]; rfl
      rw [egd] at hcx
      clear egd
      generalize t[k] = x at *
      obtain ⟨M, hM⟩ : ∃ M, Hid (L3 ++ t.take k = M) := ⟨_, hide rfl⟩
      rw [hM.out] at hm hnx lk
      obtain ⟨am, cm, rfl⟩ : ∃ a cp, u0 = .slice a M.length cp := by
        rcases hm.1.2 with ⟨rfl, h0⟩ | ⟨g, cp, cur, rfl, _⟩
        · exact ⟨none, 0, by rw [h0]⟩
        · exact ⟨_, _, rfl⟩
      have hsz := hB.size
      have hsrc : Src Tryd.prog 1 80 (.slice (some ⟨wr.heap.size, 0, none⟩) 1 1) 1 [.int .u8 x] (wr.alloc (.cells #[.int .u8 x] 5)) := Src.ofSlice _ Tryd.underlying80 ⟨wr.heap.size, 0, none⟩ 1 1 [.int .u8 x] (by simp) (fun j u hu => by rw [Addr.add_mid]; exact range_new wr #[.int .u8 x] 5 j u hu) (fun u hu => by obtain rfl := List.mem_singleton.1 hu; rfl)
      have hown := owns_below hm.1 ((Below.refl wr.heap.size wr).alloc (Nat.le_refl _) (.cells #[.int .u8 x] 5))
      go_wp2_with (at_builtin; refine wpList_append_own_src _ rfl _ _ 80 80 rfl (X + 1) 5 i0 (.int .u8 0) 1 1 Tryd.underlying80 hi hz0 hz1 hz2 rfl _ M.length _ rfl hown _ 1 _ rfl hsrc ?c1 ?c2 ?c3 ?_)
      case c1 => unfold maxLen; omega
      case c2 => omega
      case c3 => simp; omega
      intro v6 w6 hown6 hgr6
      have hB6 : Below (X + 1) w8 w6 := below_grown (hB.alloc (by omega) _) (by simp; omega) hown hgr6
      have hm6 := Mine.mk' (M ++ [x]) hown6 (by simp) (by simp) (by
        intro z hz'
        rcases List.mem_append.1 hz' with hz' | hz'
        · exact hm.2 z hz'
        · obtain rfl := List.mem_singleton.1 hz'; exact hbx)
      obtain ⟨a6, c6, rfl⟩ : ∃ a cp, v6 = .slice a (M ++ [x]).length cp := by
        rcases hm6.1.2 with ⟨rfl, h0⟩ | ⟨g, cp, cur, rfl, _⟩
        · exact ⟨none, 0, by rw [h0]⟩
        · exact ⟨_, _, rfl⟩
      go_wp2_with fail
      go_roundw
      case rel => exact ⟨k + 1, by omega, by go_num, by rw [hnx.out]; exact hm6, hB6⟩
      case measure => simp [intOf]; omega
    · obtain rfl : k = 16 := by omega
      have hfin : Hid (L3 ++ t.take 16 = zs ++ (putL c ++ putL n ++ textL s) ++ t) := by show _ = _; rw [List.take_of_length_le (by omega), eL.out]
      rw [hfin.out] at hm
      have hmf := hm.mono' (B' := w.heap.size) (by omega)
      go_wp2_with fail
      go_ret
      exact ⟨_, rfl, hmf, hB8.trans (hB.mono (by omega))⟩
end Go.Proofs.YtogmkcabndgllaaDoor
namespace Go.Proofs.YtogmkcabndgllaaDoor
open Sha Tal
def Rq.bytes (r : Rq) : List Int := putL r.c ++ putL r.n ++ textL r.s ++ r.t
def batL (q : Bool) (rs : List Rq) : List Int := if q then putL 0 else putL ((rs.length : Int) + 1) ++ rs.flatMap Rq.bytes
structure Rq.plain (r : Rq) : Prop where
  c0 : 0 ≤ r.c
  c1 : r.c ≤ 8
  n0 : 0 ≤ r.n
  n1 : r.n ≤ 1099511627776
  s1 : r.s.size ≤ 64
structure plainB (q : Bool) (rs : List Rq) : Prop where
  few : rs.length ≤ 4
  noop : q = true → rs = []
  all : ∀ r ∈ rs, r.plain
def rqB (r r' : Rq) : Bool := reqB r.c r.n r.s r.t r'.c r'.n r'.s r'.t
theorem rqB_iff {r r' : Rq} : rqB r r' = true ↔ r = r' := by
  obtain ⟨c, n, s, t⟩ := r
  obtain ⟨c', n', s', t'⟩ := r'
  constructor
  · intro h
    simp only [rqB, reqB, Bool.and_eq_true, beq_iff_eq] at h
    obtain ⟨rfl, rfl, h3, rfl⟩ := h
    rw [ByteArray.toList_eq, ByteArray.toList_eq] at h3
    rw [ByteArray.ext (Array.toList_inj.mp h3)]
  · rintro ⟨⟩
    exact reqB_same _ _ _ _
end Go.Proofs.YtogmkcabndgllaaDoor
namespace Go.Proofs.YtogmkcabndgllaaDoor
open Go.RowKit
open Sha Tal
def addTo4 (n m : Int) : Int := if n + m ≤ 4000 then n + m else 4001
set_option maxRecDepth 100000 in
set_option maxHeartbeats 400000 in
theorem add4000_any (n m : Int) (w : World) (h0 : 0 ≤ n) (h1 : n ≤ 4001) (h2 : 0 ≤ m) (h3 : m ≤ 9223372036854775807) :
    Calls Tryd.prog 22 #[.int .i64 n, .int .i64 m, .int .i64 4000] w fun e w' => e = .returned (.int .i64 (addTo4 n m)) ∧ w' = w := by
  by_cases c1 : 4000 < n
  · have HA : Hid (addTo4 n m = 4001) := by show _ = _; unfold addTo4; rw [if_neg (by omega)]
    rw [HA.out]
    go_enter Tryd.func22, Tryd.ntmps22
    go_wp2
    go_ret
    exact ⟨rfl, rfl⟩
  · by_cases c2 : 4000 < m
    · have HA : Hid (addTo4 n m = 4001) := by show _ = _; unfold addTo4; rw [if_neg (by omega)]
      rw [HA.out]
      go_enter Tryd.func22, Tryd.ntmps22
      go_wp2
      go_ret
      exact ⟨rfl, rfl⟩
    · by_cases c3 : 4000 - m < n
      · have HA : Hid (addTo4 n m = 4001) := by show _ = _; unfold addTo4; rw [if_neg (by omega)]
        rw [HA.out]
        go_enter Tryd.func22, Tryd.ntmps22
        go_wp2
        go_ret
        exact ⟨rfl, rfl⟩
      · have HA : Hid (addTo4 n m = n + m) := by show _ = _; unfold addTo4; rw [if_pos (by omega)]
        rw [HA.out]
        go_enter Tryd.func22, Tryd.ntmps22
        go_wp2
        go_ret
        exact ⟨rfl, rfl⟩
structure Bat where
  q : Bool
  a : Option Addr
  cap : Nat
  rs : List Rq
def Bat.cells (x : Bat) : List Value := [.bool x.q, .slice x.a x.rs.length x.cap]
def Bat.at (x : Bat) (w : World) : Prop := ReqsAt w x.a x.rs ∧ x.rs.length ≤ x.cap ∧ x.cap ≤ maxLen
theorem Bat.at.below {x : Bat} {w w' : World} (h : x.at w) (hb : Below w.heap.size w w') : x.at w' := ⟨h.1.below hb, h.2.1, h.2.2⟩
def BatsAt (w : World) (b : Nat) (xs : List Bat) : Prop := xs.length ≤ 3 ∧ (∀ x ∈ xs, x.at w) ∧ b < w.heap.size ∧ w.rangeAt b 0 (xs.flatMap Bat.cells)
theorem BatsAt.below {w w' : World} {b : Nat} {xs : List Bat} (h : BatsAt w b xs) (hb : Below w.heap.size w w') : BatsAt w' b xs :=
  ⟨h.1, fun x hx => (h.2.1 x hx).below hb, Nat.lt_of_lt_of_le h.2.2.1 hb.size, range_below h.2.2.2 hb h.2.2.1⟩
theorem BatsAt.cell {w : World} {b : Nat} {xs : List Bat} (h : BatsAt w b xs) (k : Nat) (hk : k < xs.length) : w.cell? ⟨b, k * 2 + 1, none⟩ = some (.slice xs[k].a xs[k].rs.length xs[k].cap) := by
  have h4 := h.2.2.2
  have h1 := h.1
  match xs, k, hk, h4 with
  | [x], 0, _, h4 => exact h4 1 _ rfl
  | [x, y], 0, _, h4 => exact h4 1 _ rfl
  | [x, y], 1, _, h4 => exact h4 3 _ rfl
  | [x, y, z], 0, _, h4 => exact h4 1 _ rfl
  | [x, y, z], 1, _, h4 => exact h4 3 _ rfl
  | [x, y, z], 2, _, h4 => exact h4 5 _ rfl
  | x :: y :: z :: u :: l, _, _, _ => simp at h1
def wtR (rs : List Rq) : Nat := (rs.map fun r => 20 + r.s.size).sum
def wt (xs : List Bat) : Nat := (xs.map fun x => 5 + wtR x.rs).sum
theorem wtR_take (rs : List Rq) (k : Nat) (hk : k < rs.length) : wtR (rs.take (k + 1)) = wtR (rs.take k) + (20 + rs[k].s.size) := by
  unfold wtR
  rw [List.take_succ_eq_append_getElem hk]
  simp only [List.map_append, List.map_cons, List.map_nil, List.sum_append, List.sum_cons, List.sum_nil]
  omega
theorem wt_take (xs : List Bat) (k : Nat) (hk : k < xs.length) : wt (xs.take (k + 1)) = wt (xs.take k) + (5 + wtR xs[k].rs) := by
  unfold wt
  rw [List.take_succ_eq_append_getElem hk]
  simp only [List.map_append, List.map_cons, List.map_nil, List.sum_append, List.sum_cons, List.sum_nil]
  omega
set_option maxRecDepth 100000 in
set_option maxHeartbeats 2000000 in
theorem light_any (b cap : Nat) (xs : List Bat) (w : World) (h : BatsAt w b xs) :
    Calls Tryd.prog 6 #[.slice (some ⟨b, 0, none⟩) xs.length cap] w fun e w' => (e = .returned (.bool false) ∧ Below w.heap.size w w') ∨ (e = .returned (.bool true) ∧ Below w.heap.size w w' ∧ wt xs ≤ 4000) := by
  have hxl := h.1
  go_enter Tryd.func6, Tryd.ntmps6
  go_wp2
  go_loopw [3, 4] (fun nv iv wr => ∃ (k : Nat) (n : Int), k ≤ xs.length ∧ iv = .int .i64 (k : Int) ∧ nv = .int .i64 n ∧ 0 ≤ n ∧ n ≤ 4001 ∧ Hid (n ≤ 4000 → n = wt (xs.take k)) ∧ Below w.heap.size w wr) (fun _ iv _ => xs.length - (intOf iv).toNat)
  case atStart => exact ⟨0, 0, by omega, rfl, rfl, by omega, by omega, hide (fun _ => by simp [wt]), Below.refl _ _⟩
  case round =>
    obtain ⟨k, n, hk, rfl, rfl, h0, h1, HL, hbel⟩ := hrel
    obtain ⟨wo, rfl⟩ : ∃ wo, wo = wr := ⟨_, rfl⟩
    by_cases hlt : k < xs.length
    · by_cases hn : n ≤ 4000
      · have hW := h.below hbel
        have hc := hW.cell k hlt
        have hrow := (hW.2.1 xs[k] (List.getElem_mem hlt)).1
        have HT := hide (wt_take xs k hlt)
        obtain ⟨xa, hxa⟩ : ∃ xa, Hid (xs[k].a = xa) := ⟨_, hide rfl⟩
        obtain ⟨xc, hxc⟩ : ∃ xc, Hid (xs[k].cap = xc) := ⟨_, hide rfl⟩
        obtain ⟨xr, hxr⟩ : ∃ xr, Hid (xs[k].rs = xr) := ⟨_, hide rfl⟩
        rw [hxa.out, hxc.out, hxr.out] at hc
        rw [hxa.out, hxr.out] at hrow
        rw [hxr.out] at HT
        clear hxa hxc hxr
        have hrl := hrow.1
        unfold maxLen at hrl
        have hbw := hW.2.2.1
        have k1 : (k : Int) < xs.length := by omega
        have ca := add4000_any n 5 wo h0 h1 (by omega) (by omega)
        have HA : Hid (addTo4 n 5 ≤ 4001 ∧ 0 ≤ addTo4 n 5 ∧ (addTo4 n 5 ≤ 4000 → addTo4 n 5 = wt (xs.take k) + 5)) := by
          unfold addTo4
          have := HL.out hn
          split
          · refine ⟨by omega, by omega, fun _ => by omega⟩
          · refine ⟨by omega, by omega, fun h => by omega⟩
        obtain ⟨p, hp⟩ : ∃ p, Hid (addTo4 n 5 = p) := ⟨_, hide rfl⟩
        rw [hp.out] at ca HA
        clear hp
        go_wp2_with fail
        refine ca.mono ?_
        rintro e w1 ⟨rfl, hx⟩
        obtain rfl := hx.symm
        clear hx ca
        go_wp2
        go_loopw [3, 5] (fun nv jv wq => ∃ (j : Nat) (m : Int), j ≤ xr.length ∧ jv = .int .i64 (j : Int) ∧ nv = .int .i64 m ∧ 0 ≤ m ∧ m ≤ 4001 ∧ Hid (m ≤ 4000 → m = wt (xs.take k) + 5 + wtR (xr.take j)) ∧ Below wo.heap.size wo wq) (fun _ jv _ => xr.length - (intOf jv).toNat)
        case atStart => exact ⟨0, p, by omega, rfl, rfl, HA.out.2.1, HA.out.1, hide (fun q => by have := HA.out.2.2 q; simp [wtR]; omega), Below.refl _ _⟩
        case round =>
          obtain ⟨j, m, hj, rfl, rfl, m0, m1, HM, hbq⟩ := hrel
          have hcq := (hbq.cell (p := ⟨b, k * 2 + 1, none⟩) hbw).trans hc
          by_cases hjl : j < xr.length
          · have j1 : (j : Int) < xr.length := by omega
            by_cases hm : m ≤ 4000
            · obtain ⟨rb, off, rfl, hrb, hre⟩ := hrow.elem j hjl
              have HT2 := hide (wtR_take xr j hjl)
              obtain ⟨r, hr⟩ : ∃ r, Hid (xr[j] = r) := ⟨_, hide rfl⟩
              have hrs : r.s.size ≤ maxLen := by rw [← hr.out]; exact (hrow.2.1 _ (List.getElem_mem hjl)).sl
              unfold maxLen at hrs
              rw [hr.out] at hre HT2
              have hre2 : wo.cell? ⟨rb, off + j * 19 + 2, none⟩ = some (.string r.s) := hre 2 _ rfl
              clear hre hr
              have HA2 : Hid (addTo4 m 20 ≤ 4001 ∧ 0 ≤ addTo4 m 20 ∧ (addTo4 m 20 ≤ 4000 → addTo4 m 20 = wt (xs.take k) + 5 + wtR (xr.take j) + 20)) := by
                unfold addTo4
                have := HM.out hm
                split
                · refine ⟨by omega, by omega, fun _ => by omega⟩
                · refine ⟨by omega, by omega, fun h => by omega⟩
              have ca := fun w0 => add4000_any m 20 w0 m0 m1 (by omega) (by omega)
              obtain ⟨p2, hp2⟩ : ∃ p, Hid (addTo4 m 20 = p) := ⟨_, hide rfl⟩
              simp only [hp2.out] at ca
              rw [hp2.out] at HA2
              have cb := fun w0 => add4000_any p2 (r.s.size : Int) w0 HA2.out.2.1 HA2.out.1 (by omega) (by omega)
              have HA3 : Hid (addTo4 p2 r.s.size ≤ 4001 ∧ 0 ≤ addTo4 p2 r.s.size ∧ (addTo4 p2 r.s.size ≤ 4000 → addTo4 p2 r.s.size = wt (xs.take k) + 5 + wtR (xr.take (j + 1)))) := by
                unfold addTo4
                have := HA2.out
                have := HT2.out
                split
                · refine ⟨by omega, by omega, fun _ => by have := HA2.out.2.2 (by omega); omega⟩
                · refine ⟨by omega, by omega, fun h => by omega⟩
              obtain ⟨p3, hp3⟩ : ∃ p, Hid (addTo4 p2 r.s.size = p) := ⟨_, hide rfl⟩
              simp only [hp3.out] at cb
              rw [hp3.out] at HA3
              clear hp2 hp3 HT2 HA2
              go_wp2_with fail
              obtain ⟨w5, hw5⟩ : ∃ w5, wr.drew = w5 := ⟨_, rfl⟩
              have hB5 : Below wo.heap.size wo w5 := by rw [← hw5]; exact hbq.drew
              have c1 : ∀ w', Below w5.heap.size w5 w' → w'.cell? ⟨b, k * 2 + 1, none⟩ = some (.slice (some ⟨rb, off, none⟩) xr.length xc) := fun w' hw' => ((hB5.trans (hw'.mono hB5.size)).cell (p := ⟨b, k * 2 + 1, none⟩) hbw).trans hc
              have c2 : ∀ w', Below w5.heap.size w5 w' → w'.cell? ⟨rb, off + j * 19 + 2, none⟩ = some (.string r.s) := fun w' hw' => ((hB5.trans (hw'.mono hB5.size)).cell (p := ⟨rb, off + j * 19 + 2, none⟩) hrb).trans hre2
              refine hs_begin (S := (Below w5.heap.size w5)) 14 rfl (by kernel_rfl) ?_
              rw [hw5]
              clear hw5 hcq hbq
              have hS : (Below w5.heap.size w5) w5 := Below.refl _ _
              refine hs_take (i := 0) (d := some 32) (v := ?_) rfl (by kernel_rfl) (by kernel_rfl) (by kernel_rfl) (by rfl) ?_ hS rfl ?_
              rotate_left
              · intro w' hw
                go_simp
                try with_reducible rfl
              simp only [Act.put, List.setIfInBounds_toArray, List.set_cons_zero, List.set_cons_succ]
              refine hs_take (i := 2) (d := some 34) (v := ?_) rfl (by kernel_rfl) (by kernel_rfl) (by kernel_rfl) (by rfl) ?_ hS rfl ?_
              rotate_left
              · intro w' hw
                go_simp
                try with_reducible rfl
              simp only [Act.put, List.setIfInBounds_toArray, List.set_cons_zero, List.set_cons_succ]
              refine hs_take (i := 3) (d := some 35) (v := ?_) rfl (by kernel_rfl) (by kernel_rfl) (by kernel_rfl) (by rfl) ?_ hS rfl ?_
              rotate_left
              · intro w' hw
                go_simp
                try with_reducible rfl
              simp only [Act.put, List.setIfInBounds_toArray, List.set_cons_zero, List.set_cons_succ]
              refine hs_take (i := 4) (d := some 36) (v := ?_) rfl (by kernel_rfl) (by kernel_rfl) (by kernel_rfl) (by rfl) ?_ hS rfl ?_
              rotate_left
              · intro w' hw
                go_simp
                try with_reducible rfl
              simp only [Act.put, List.setIfInBounds_toArray, List.set_cons_zero, List.set_cons_succ]
              refine hs_take (i := 5) (d := some 37) (v := ?_) rfl (by kernel_rfl) (by kernel_rfl) (by kernel_rfl) (by rfl) ?_ hS rfl ?_
              rotate_left
              · intro w' hw
                go_simp
                try with_reducible rfl
              simp only [Act.put, List.setIfInBounds_toArray, List.set_cons_zero, List.set_cons_succ]
              refine hs_take (i := 6) (d := some 38) (v := ?_) rfl (by kernel_rfl) (by kernel_rfl) (by kernel_rfl) (by rfl) ?_ hS rfl ?_
              rotate_left
              · intro w' hw
                have hc := c1 w' hw
                go_simp
                try with_reducible rfl
              simp only [Act.put, List.setIfInBounds_toArray, List.set_cons_zero, List.set_cons_succ]
              refine hs_take (i := 7) (d := some 39) (v := ?_) rfl (by kernel_rfl) (by kernel_rfl) (by kernel_rfl) (by rfl) ?_ hS rfl ?_
              rotate_left
              · intro w' hw
                go_simp
                try with_reducible rfl
              simp only [Act.put, List.setIfInBounds_toArray, List.set_cons_zero, List.set_cons_succ]
              refine hs_take (i := 8) (d := some 40) (v := ?_) rfl (by kernel_rfl) (by kernel_rfl) (by kernel_rfl) (by rfl) ?_ hS rfl ?_
              rotate_left
              · intro w' hw
                go_simp
                try with_reducible rfl
              simp only [Act.put, List.setIfInBounds_toArray, List.set_cons_zero, List.set_cons_succ]
              refine hs_take (i := 9) (d := some 41) (v := ?_) rfl (by kernel_rfl) (by kernel_rfl) (by kernel_rfl) (by rfl) ?_ hS rfl ?_
              rotate_left
              · intro w' hw
                go_simp
                try with_reducible rfl
              simp only [Act.put, List.setIfInBounds_toArray, List.set_cons_zero, List.set_cons_succ]
              refine hs_take (i := 10) (d := some 42) (v := ?_) rfl (by kernel_rfl) (by kernel_rfl) (by kernel_rfl) (by rfl) ?_ hS rfl ?_
              rotate_left
              · intro w' hw
                have hc := c2 w' hw
                go_simp
                try with_reducible rfl
              simp only [Act.put, List.setIfInBounds_toArray, List.set_cons_zero, List.set_cons_succ]
              refine hs_take (i := 11) (d := some 43) (v := ?_) rfl (by kernel_rfl) (by kernel_rfl) (by kernel_rfl) (by rfl) ?_ hS rfl ?_
              rotate_left
              · intro w' hw
                go_simp
                try with_reducible rfl
              simp only [Act.put, List.setIfInBounds_toArray, List.set_cons_zero, List.set_cons_succ]
              refine hs_call (i := 1) (d := some 33) rfl (by kernel_rfl) (by rfl) (by go_simp; first | done | exact ⟨rfl, rfl⟩ | with_reducible rfl) rfl ?_
              refine (ca w5).mono ?_
              rintro e' w6 ⟨rfl, hx⟩
              obtain rfl := hx.symm
              refine ⟨_, rfl, hS, ?_⟩
              simp only [Act.put, List.setIfInBounds_toArray, List.set_cons_zero, List.set_cons_succ]
              refine hs_call (i := 12) (d := some 44) rfl (by kernel_rfl) (by rfl) (by go_simp; first | done | exact ⟨rfl, rfl⟩ | with_reducible rfl) rfl ?_
              refine (cb w5).mono ?_
              rintro e' w7 ⟨rfl, hx⟩
              obtain rfl := hx.symm
              refine ⟨_, rfl, hS, ?_⟩
              simp only [Act.put, List.setIfInBounds_toArray, List.set_cons_zero, List.set_cons_succ]
              refine hs_take (i := 13) (d := some 3) (v := ?_) rfl (by kernel_rfl) (by kernel_rfl) (by kernel_rfl) (by rfl) ?_ hS rfl ?_
              rotate_left
              · intro w' hw
                go_simp
                try with_reducible rfl
              simp only [Act.put, List.setIfInBounds_toArray, List.set_cons_zero, List.set_cons_succ]
              refine hs_done (by kernel_rfl) ?_
              go_wp2
              go_roundw
              case rel => exact ⟨j + 1, p3, by omega, by go_num, rfl, HA3.out.2.1, HA3.out.1, hide HA3.out.2.2, hB5⟩
              case measure => simp [intOf]; omega
            · go_wp2
              go_roundw
              case rel => exact ⟨k + 1, m, by omega, by go_num, rfl, m0, m1, hide (fun q => absurd q hm), hbel.trans (hbq.mono hbel.size)⟩
              case measure => simp [intOf]; omega
          · have hj' : j = xr.length := by omega
            have HF : Hid (m ≤ 4000 → m = wt (xs.take (k + 1))) := by
              intro hm
              have h1 := HM.out hm
              have h2 := HT.out
              rw [hj', List.take_length] at h1
              omega
            have j1 : ¬ (j : Int) < xr.length := by omega
            clear HM
            go_wp2
            go_roundw
            case rel => exact ⟨k + 1, m, by omega, by go_num, rfl, m0, m1, HF, hbel.trans (hbq.mono hbel.size)⟩
            case measure => simp [intOf]; omega
      · go_wp2
        go_ret
        exact .inl ⟨rfl, hbel⟩
    · have hk' : k = xs.length := by omega
      have HF : Hid (n ≤ 4000 → wt xs ≤ 4000) := by
        intro hn
        have := HL.out hn
        rw [hk', List.take_length] at this
        omega
      have k1 : ¬ (k : Int) < xs.length := by omega
      clear HL
      by_cases hn : n ≤ 4000
      · go_wp2
        go_ret
        exact .inr ⟨rfl, hbel, HF.out hn⟩
      · go_wp2
        go_ret
        exact .inl ⟨rfl, hbel⟩
end Go.Proofs.YtogmkcabndgllaaDoor
namespace Go.Proofs.YtogmkcabndgllaaDoor
open Go.RowKit
open Sha Tal
theorem Rq.ok.isz {r : Rq} (h : r.ok) : (Tryd.prog.info? 73).map (·.size) = some r.cells.length := by rw [h.length]; exact iszR
theorem Rq.ok.iszA {r : Rq} (h : r.ok) : (Tryd.prog.info? 73).map (·.size) = some r.cells.toArray.size := by rw [List.size_toArray, h.length]; exact iszR
theorem Rq.ok.blank {r : Rq} (h : r.ok) (w : World) : (w.alloc (.cells #[.int .i64 0, .int .i64 0, .string ⟨#[]⟩, .int .u8 0, .int .u8 0, .int .u8 0, .int .u8 0, .int .u8 0, .int .u8 0, .int .u8 0, .int .u8 0, .int .u8 0, .int .u8 0, .int .u8 0, .int .u8 0, .int .u8 0, .int .u8 0, .int .u8 0, .int .u8 0] 73)).there w.heap.size 0 r.cells.toArray.size := by
  have := there_new w #[.int .i64 0, .int .i64 0, .string ⟨#[]⟩, .int .u8 0, .int .u8 0, .int .u8 0, .int .u8 0, .int .u8 0, .int .u8 0, .int .u8 0, .int .u8 0, .int .u8 0, .int .u8 0, .int .u8 0, .int .u8 0, .int .u8 0, .int .u8 0, .int .u8 0, .int .u8 0] 73
  have e : r.cells.toArray.size = 19 := by rw [List.size_toArray, h.length]
  rw [e]; exact this
def BatBox (w : World) (b : Nat) (q : Bool) (a : Option Addr) (n cap : Nat) : Prop := b < w.heap.size ∧ w.cell? ⟨b, 0, none⟩ = some (.bool q) ∧ w.cell? ⟨b, 1, none⟩ = some (.slice a n cap) ∧ w.rangeAt b 0 [.bool q, .slice a n cap]
theorem BatBox.below {w w' : World} {b : Nat} {q : Bool} {a : Option Addr} {n cap : Nat} (h : BatBox w b q a n cap) (hb : Below w.heap.size w w') : BatBox w' b q a n cap :=
  ⟨Nat.lt_of_lt_of_le h.1 hb.size, (hb.cell (p := ⟨b, 0, none⟩) h.1).trans h.2.1, (hb.cell (p := ⟨b, 1, none⟩) h.1).trans h.2.2.1, range_below h.2.2.2 hb h.1⟩
theorem BatBox.mk (w : World) (q : Bool) (a : Option Addr) (n cap : Nat) : BatBox (w.alloc (.cells #[.bool q, .slice a n cap] 24)) w.heap.size q a n cap := by
  have := range_new w #[.bool q, .slice a n cap] 24
  exact ⟨by simp, this 0 _ rfl, this 1 _ rfl, this⟩
theorem iszB : (Tryd.prog.info? 24).map (·.size) = some 2 := by kernel_rfl
def batP (rs : List Rq) (k : Nat) : List Int := putL ((rs.length : Int) + 1) ++ (rs.take k).flatMap Rq.bytes
theorem batP_succ (rs : List Rq) (k : Nat) (hk : k < rs.length) : batP rs (k + 1) = batP rs k ++ rs[k].bytes := by
  unfold batP
  rw [List.take_succ_eq_append_getElem hk]
  simp only [List.flatMap_append, List.flatMap_cons, List.flatMap_nil, List.append_nil, List.append_assoc]
theorem batP_all (rs : List Rq) : batP rs rs.length = batL false rs := by unfold batP batL; simp
theorem putL_le (n : Int) (h : n ≤ 9223372036854775807) : (putL n).length ≤ 9 := by
  have := putL_length n (by omega)
  omega
theorem bytes_le {r : Rq} (h : r.ok) (hs : r.s.size ≤ 4000) : r.bytes.length ≤ 4100 := by
  have h1 := putL_le r.c h.ch
  have h2 := putL_le r.n h.nh
  have h3 := putL_le (r.s.size : Int) (by omega)
  have h4 := h.tl
  simp only [Rq.bytes, textL, List.length_append, strL_length]
  omega
theorem flat_le : ∀ (rs : List Rq), (∀ r ∈ rs, r.ok) → (∀ r ∈ rs, r.s.size ≤ 4000) → (rs.flatMap Rq.bytes).length ≤ rs.length * 4100
  | [], _, _ => by simp
  | r :: rs, h1, h2 => by
    have k1 := bytes_le (h1 r (by simp)) (h2 r (by simp))
    have k2 := flat_le rs (fun x hx => h1 x (by simp [hx])) (fun x hx => h2 x (by simp [hx]))
    simp only [List.flatMap_cons, List.length_append, List.length_cons]
    omega
theorem batP_le (rs : List Rq) (k : Nat) (hn : rs.length ≤ 200) (h1 : ∀ r ∈ rs, r.ok) (h2 : ∀ r ∈ rs, r.s.size ≤ 4000) : (batP rs k).length ≤ 900000 := by
  have k1 := putL_le ((rs.length : Int) + 1) (by omega)
  have k2 := flat_le (rs.take k) (fun x hx => h1 x (List.mem_of_mem_take hx)) (fun x hx => h2 x (List.mem_of_mem_take hx))
  have k3 : (rs.take k).length ≤ 200 := by rw [List.length_take]; omega
  have k4 : (rs.take k).length * 4100 ≤ 200 * 4100 := Nat.mul_le_mul_right _ k3
  simp only [batP, List.length_append]
  omega
theorem batL_le (q : Bool) (rs : List Rq) (hn : rs.length ≤ 200) (h1 : ∀ r ∈ rs, r.ok) (h2 : ∀ r ∈ rs, r.s.size ≤ 4000) : (batL q rs).length ≤ 900000 := by
  cases q with
  | false => rw [← batP_all]; exact batP_le rs _ hn h1 h2
  | true => have := putL_le 0 (by omega); simp only [batL, if_true]; omega
theorem Rq.ok.put {r : Rq} (h : r.ok) (hs : r.s.size ≤ 4000) (w : World) : Calls Tryd.prog 45 #[.slice none 0 0, .agg r.cells.toArray] w fun e w' => ∃ v, e = .returned v ∧ Mine w' w.heap.size v r.bytes ∧ Below w.heap.size w w' := by
  have := rput_any none 0 [] r.c r.n r.s r.t w (nil_row w) (by simp) h.tl h.tb h.ch h.nh (by omega)
  simpa only [List.nil_append, List.length_nil, Rq.bytes, Rq.cells] using this
theorem Rq.ok.refPut {r : Rq} (h : r.ok) (hs : r.s.size ≤ 4000) (a : Option Addr) (cap : Nat) (zs : List Int) (w : World) (hr : RowAt w a zs) (hz : zs.length ≤ 1000000) : Calls Tryd.prog 40 #[.slice a zs.length cap, .agg r.cells.toArray] w fun e w' => ∃ v, e = .returned v ∧ Mine w' w.heap.size v (zs ++ r.bytes) ∧ Below w.heap.size w w' := by
  have := refRPut_any a cap zs r.c r.n r.s r.t w hr hz h.tl h.tb h.ch h.nh (by omega)
  simpa only [Rq.bytes, Rq.cells, List.append_assoc] using this
set_option maxRecDepth 100000 in
set_option maxHeartbeats 2000000 in
theorem bytesOf_any (q : Bool) (a : Option Addr) (cap : Nat) (rs : List Rq) (w : World) (h : ReqsAt w a rs) (hn : rs.length ≤ 200) (hs : ∀ r ∈ rs, r.s.size ≤ 4000) :
    Calls Tryd.prog 33 #[batV q a rs.length cap] w fun e w' => ∃ v, e = .returned v ∧ Mine w' w.heap.size v (batL q rs) ∧ Below w.heap.size w w' := by
  obtain ⟨i0, hi, hz0, hz1, hz2⟩ := info_parts info8
  unfold batV
  have hB1 : Below w.heap.size w (w.alloc (.cells #[.bool q, .slice a rs.length cap] 24)) := (Below.refl _ _).alloc (Nat.le_refl _) _
  have hb1 := BatBox.mk w q a rs.length cap
  cases q with
  | true =>
    have cp := fun w0 => put_any none 0 [] 0 w0 (nil_row w0) (by simp) (by omega)
    simp only [List.nil_append, List.length_nil] at cp
    have hL : Hid (batL true rs = putL 0) := by show _ = _; simp [batL]
    rw [hL.out]
    go_enter Tryd.func33, Tryd.ntmps33
    go_upto_region 1 with fail
    go_name_world w1 hw1
    rw [hw1] at hB1 hb1
    clear hw1
    obtain ⟨_, c0, c1, _⟩ := hb1
    go_wp2_with fail
    refine (cp w1).mono ?_
    rintro e w2 ⟨v2, rfl, m2, hw2⟩
    go_wp2_with fail
    go_ret
    exact ⟨_, rfl, m2.mono' hB1.size, hB1.trans (hw2.mono hB1.size)⟩
  | false =>
    have hall := h.2.1
    have hle := fun k => batP_le rs k hn hall hs
    have cp := fun w0 => put_any none 0 [] ((rs.length : Int) + 1) w0 (nil_row w0) (by simp) (by omega)
    simp only [List.nil_append, List.length_nil] at cp
    have h1 := h.below hB1
    go_enter Tryd.func33, Tryd.ntmps33
    go_upto_region 1 with fail
    go_name_world w1 hw1
    rw [hw1] at hB1 hb1 h1
    clear hw1
    obtain ⟨_, c0, c1, _⟩ := hb1
    go_wp2_with fail
    refine (cp w1).mono ?_
    rintro e w2 ⟨v2, rfl, m2, hw2⟩
    have c1' := (hw2.cell (p := ⟨w.heap.size, 1, none⟩) (by omega)).trans c1
    clear cp
    go_wp2
    go_loopw [3, 17] (fun ov iv wr => ∃ k : Nat, k ≤ rs.length ∧ iv = .int .i64 (k : Int) ∧ Hid (Mine wr w1.heap.size ov (batP rs k)) ∧ Below w1.heap.size w1 wr) (fun _ iv _ => rs.length - (intOf iv).toNat)
    case atStart => exact ⟨0, by omega, rfl, hide (by simpa [batP] using m2), hw2⟩
    case round =>
      clear c1' m2 hw2
      obtain ⟨k, hk, rfl, HM, hB⟩ := hrel
      by_cases hlt : k < rs.length
      · have k1 : (k : Int) < rs.length := by omega
        have hrow := h1.below hB
        have HS := hide (batP_succ rs k hlt)
        have hlen := hle k
        obtain ⟨b, off, rfl, hb, hre⟩ := hrow.elem k hlt
        obtain ⟨r, hr⟩ : ∃ r, Hid (rs[k] = r) := ⟨_, hide rfl⟩
        have hok : r.ok := by rw [← hr.out]; exact hall _ (List.getElem_mem hlt)
        have hrs : r.s.size ≤ 4000 := by rw [← hr.out]; exact hs _ (List.getElem_mem hlt)
        rw [hr.out] at hre HS
        clear hr hrow
        have hiq := hok.isz
        have hiA := hok.iszA
        have hN := hok.blank wr
        have h1c := all_oneCell_toArray r.one
        have hbl := bytes_le hok hrs
        have cpr := fun w0 => hok.put hrs w0
        have F := fresh_store wr #[.int .i64 0, .int .i64 0, .string ⟨#[]⟩, .int .u8 0, .int .u8 0, .int .u8 0, .int .u8 0, .int .u8 0, .int .u8 0, .int .u8 0, .int .u8 0, .int .u8 0, .int .u8 0, .int .u8 0, .int .u8 0, .int .u8 0, .int .u8 0, .int .u8 0, .int .u8 0] 73 r.cells (by rw [hok.length]; rfl)
        obtain ⟨q, hq⟩ : ∃ q, Hid (r.cells = q) := ⟨_, hide rfl⟩
        rw [hq.out] at hre hiq hiA hN h1c F
        simp only [hq.out] at cpr
        obtain ⟨bs, hbs⟩ : ∃ bs, Hid (r.bytes = bs) := ⟨_, hide rfl⟩
        simp only [hbs.out] at cpr
        rw [hbs.out] at HS hbl
        clear hq hbs hok hrs
        go_upto_region 6 with fail
        try simp only [Act.put]
        refine wp_region_list ?_
        refine wpList_step fun K hK => ?_
        go_simp
        refine hK _ _ ?_
        clear hK K
        refine wpList_load_mid rfl 73 _ rfl _ _ rfl q _ hre Tryd.underlying73 rfl hiq ?_
        go_upto_region 7 with (refine wpList_store_mid (op := ⟨none, .store 73 (.tmp 5) (.tmp 20), _, _, _, none⟩) rfl 73 _ _ rfl _ _ q.toArray rfl rfl hN hiA h1c ?_)
        go_name_world w3 hw3
        rw [show (wr.alloc (.cells #[.int .i64 0, .int .i64 0, .string ⟨#[]⟩, .int .u8 0, .int .u8 0, .int .u8 0, .int .u8 0, .int .u8 0, .int .u8 0, .int .u8 0, .int .u8 0, .int .u8 0, .int .u8 0, .int .u8 0, .int .u8 0, .int .u8 0, .int .u8 0, .int .u8 0, .int .u8 0] 73)).setCells wr.heap.size 0 q = w3 from hw3] at F
        clear hw3 hN
        obtain ⟨hR3, hF3, hz3, _⟩ := F
        have hB3 := hB.trans (hF3.mono hB.size)
        have HM3 := hide (HM.out.below hF3)
        clear HM hF3 hre
        try simp only [Act.put]
        refine wp_region_list ?_
        refine wpList_step fun K hK => ?_
        go_simp
        refine hK _ _ ?_
        clear hK K
        refine wpList_load_mid rfl 73 _ rfl _ _ rfl q _ hR3 Tryd.underlying73 rfl hiq ?_
        go_wp2_with fail
        refine (cpr w3).mono ?_
        rintro e w4 ⟨v4, rfl, m4, hw4⟩
        have hB4 := hB3.trans (hw4.mono hB3.size)
        have m3 := HM3.out.below hw4
        obtain ⟨a4, cap4, rfl, _, _, row4⟩ := m4.rowAt (by unfold maxLen; omega)
        clear HM3 cpr
        go_wp2_with (at_builtin; refine wpList_append_own_src _ rfl _ _ 80 80 rfl w1.heap.size 5 i0 (.int .u8 0) 1 1 Tryd.underlying80 hi hz0 hz1 hz2 rfl _ (batP rs k).length ((batP rs k).map (Value.int .u8)) rfl m3.1 (.slice a4 bs.length cap4) bs.length (v8 bs) rfl (row4.src cap4) ?c1 ?c2 ?c3 ?_)
        case c1 => unfold maxLen; omega
        case c2 => omega
        case c3 => exact hB4.size
        intro v5 w5 hown5 hgrow5
        have hB5 := below_grown hB4 hB4.size m3.1 hgrow5
        have mbs := m4.2
        have mbp := m3.2
        clear m3 m4 row4 hgrow5
        go_wp2
        go_roundw
        case rel =>
          refine ⟨k + 1, by omega, by go_num, hide ?_, hB5⟩
          rw [HS.out]
          exact Mine.mk' (batP rs k ++ bs) hown5 (by simp) (by simp [v8]) (by
            intro z hz'
            rcases List.mem_append.1 hz' with hz' | hz'
            · exact mbp z hz'
            · exact mbs z hz')
        case measure => simp [intOf]; omega
      · obtain rfl : k = rs.length := by omega
        go_wp2
        go_ret
        exact ⟨_, rfl, by rw [← batP_all]; exact HM.out.mono' hB1.size, hB1.trans (hB.mono hB1.size)⟩
set_option maxRecDepth 100000 in
theorem none_any (w : World) : Calls Tryd.prog 23 #[] w fun e w' => e = .returned (batV true none 0 0) ∧ Below w.heap.size w w' := by
  have F := fresh_store w #[.bool false, .slice none 0 0] 24 [.bool true, .slice none 0 0] rfl
  have hN : (w.alloc (.cells #[.bool false, .slice none 0 0] 24)).there w.heap.size 0 2 := there_new w #[.bool false, .slice none 0 0] 24
  have hrs := run_loadVar_mid (P := Tryd.prog) _ w.heap.size 0 24 [.bool true, .slice none 0 0] _ F.1 Tryd.underlying24 rfl iszB
  have hB := F.2.1
  go_enter Tryd.func23, Tryd.ntmps23
  go_upto_region 1 with fail
  try simp only [Act.put]
  refine wp_region_list ?_
  refine wpList_step fun K hK => ?_
  go_simp
  refine hK _ _ ?_
  clear hK K
  refine wpList_store_mid rfl 24 _ _ rfl _ _ #[.bool true, .slice none 0 0] rfl rfl hN iszB (by simp [Value.oneCell']) ?_
  go_wp2
  exact bodyPost_ret (v := .agg #[.bool true, .slice none 0 0]) (by simp [results, Tryd.results23, asAddr, hrs, Act.put]) rfl ⟨rfl, hB⟩
end Go.Proofs.YtogmkcabndgllaaDoor
namespace Go.Proofs.YtogmkcabndgllaaDoor
open Go.RowKit
open Sha Tal
theorem batI (q : Bool) (a : Option Addr) (n cap : Nat) : (Tryd.prog.info? 24).map (·.size) = some [Value.bool q, .slice a n cap].length := iszB
set_option maxRecDepth 100000 in
set_option maxHeartbeats 2000000 in
theorem refBput_any (a0 : Option Addr) (cap0 : Nat) (zs : List Int) (q : Bool) (a : Option Addr) (cap : Nat) (rs : List Rq) (w : World) (h0 : RowAt w a0 zs) (hzl : zs.length ≤ 3000) (h : ReqsAt w a rs) (hn : rs.length ≤ 200) (hs : ∀ r ∈ rs, r.s.size ≤ 4000) :
    Calls Tryd.prog 31 #[.slice a0 zs.length cap0, batV q a rs.length cap] w fun e w' => ∃ v, e = .returned v ∧ Mine w' w.heap.size v (zs ++ batL q rs) ∧ Below w.heap.size w w' := by
  unfold batV
  have hB1 : Below w.heap.size w (w.alloc (.cells #[.bool q, .slice a rs.length cap] 24)) := (Below.refl _ _).alloc (Nat.le_refl _) _
  have hb1 := BatBox.mk w q a rs.length cap
  cases q with
  | true =>
    have cp := fun w0 h0 => refPut_any a0 cap0 zs 0 w0 h0 (by omega) (by omega)
    have hL : Hid (batL true rs = putL 0) := by show _ = _; simp [batL]
    rw [hL.out]
    go_enter Tryd.func31, Tryd.ntmps31
    go_upto_region 1 with fail
    go_name_world w1 hw1
    rw [hw1] at hB1 hb1
    clear hw1
    obtain ⟨_, c0, c1, _⟩ := hb1
    go_wp2_with fail
    refine (cp w1 (h0.below hB1)).mono ?_
    rintro e w2 ⟨v2, rfl, m2, hw2⟩
    go_wp2_with fail
    go_ret
    exact ⟨_, rfl, m2.mono' hB1.size, hB1.trans (hw2.mono hB1.size)⟩
  | false =>
    have hall := h.2.1
    have hle := fun k => batP_le rs k hn hall hs
    have cp := fun w0 h0 => refPut_any a0 cap0 zs ((rs.length : Int) + 1) w0 h0 (by omega) (by omega)
    have h1 := h.below hB1
    go_enter Tryd.func31, Tryd.ntmps31
    go_upto_region 1 with fail
    go_name_world w1 hw1
    rw [hw1] at hB1 hb1 h1
    clear hw1
    obtain ⟨hX, c0, c1, _⟩ := hb1
    obtain ⟨X, hXe⟩ : ∃ X, Hid (w.heap.size = X) := ⟨_, hide rfl⟩
    rw [hXe.out] at hX c0 c1 ⊢
    go_wp2_with fail
    refine (cp w1 (h0.below hB1)).mono ?_
    rintro e w2 ⟨v2, rfl, m2, hw2⟩
    clear cp
    go_wp2
    go_loopw [0, 5] (fun ov iv wr => ∃ k : Nat, k ≤ rs.length ∧ iv = .int .i64 (k : Int) ∧ Hid (Mine wr w1.heap.size ov (zs ++ batP rs k)) ∧ Below w1.heap.size w1 wr) (fun _ iv _ => rs.length - (intOf iv).toNat)
    case atStart => exact ⟨0, by omega, rfl, hide (by simpa [batP] using m2), hw2⟩
    case round =>
      clear m2 hw2 c0
      obtain ⟨k, hk, rfl, HM, hB⟩ := hrel
      have c1' := (hB.cell (p := ⟨X, 1, none⟩) hX).trans c1
      by_cases hlt : k < rs.length
      · have k1 : (k : Int) < rs.length := by omega
        have hrow := h1.below hB
        have HS := hide (batP_succ rs k hlt)
        have hlen := hle k
        obtain ⟨b, off, rfl, hb, hre⟩ := hrow.elem k hlt
        obtain ⟨r, hr⟩ : ∃ r, Hid (rs[k] = r) := ⟨_, hide rfl⟩
        have hok : r.ok := by rw [← hr.out]; exact hall _ (List.getElem_mem hlt)
        have hrs : r.s.size ≤ 4000 := by rw [← hr.out]; exact hs _ (List.getElem_mem hlt)
        rw [hr.out] at hre HS
        clear hr hrow
        have hiq := hok.isz
        have hlz : (zs ++ batP rs k).length ≤ 1000000 := by rw [List.length_append]; omega
        obtain ⟨ys, hys⟩ : ∃ ys, Hid (zs ++ batP rs k = ys) := ⟨_, hide rfl⟩
        rw [hys.out] at HM hlz
        obtain ⟨ay, capy, rfl, _, _, rowy⟩ := HM.out.rowAt (by unfold maxLen; omega)
        have cpr := hok.refPut hrs ay capy ys wr rowy hlz
        obtain ⟨q, hq⟩ : ∃ q, Hid (r.cells = q) := ⟨_, hide rfl⟩
        rw [hq.out] at hre hiq cpr
        have HS' : Hid (zs ++ batP rs (k + 1) = ys ++ r.bytes) := hide (by rw [HS.out, ← hys.out, List.append_assoc])
        obtain ⟨bs, hbs⟩ : ∃ bs, Hid (r.bytes = bs) := ⟨_, hide rfl⟩
        rw [hbs.out] at HS' cpr
        clear hq hbs hok hrs HS hys HM hlz rowy
        go_upto_region 7 with fail
        try simp only [Act.put]
        refine wp_region_list ?_
        refine wpList_step fun K hK => ?_
        go_simp
        refine hK _ _ ?_
        clear hK K
        refine wpList_step fun K hK => ?_
        go_simp
        refine hK _ _ ?_
        clear hK K
        refine wpList_step fun K hK => ?_
        go_simp
        refine hK _ _ ?_
        clear hK K
        refine wpList_step fun K hK => ?_
        go_simp
        refine hK _ _ ?_
        clear hK K
        refine wpList_step fun K hK => ?_
        go_simp
        refine hK _ _ ?_
        clear hK K
        refine wpList_load_mid rfl 73 _ rfl _ _ rfl q _ hre Tryd.underlying73 rfl hiq ?_
        go_wp2_with fail
        refine cpr.mono ?_
        rintro e w4 ⟨v4, rfl, m4, hw4⟩
        have hB4 := hB.trans (hw4.mono hB.size)
        have m5 := hide (m4.mono' hB.size)
        clear cpr m4
        go_wp2
        go_roundw
        case rel => exact ⟨k + 1, by omega, by go_num, hide (by rw [HS'.out]; exact m5.out), hB4⟩
        case measure => simp [intOf]; omega
      · obtain rfl : k = rs.length := by omega
        go_wp2
        go_ret
        exact ⟨_, rfl, by rw [← batP_all]; exact HM.out.mono' hB1.size, hB1.trans (hB.mono hB1.size)⟩
end Go.Proofs.YtogmkcabndgllaaDoor
namespace Go.Proofs.YtogmkcabndgllaaDoor
open Go.RowKit
open Sha Tal
def eqBat (q : Bool) (rs : List Rq) (q' : Bool) (rs' : List Rq) : Prop := q = q' ∧ rs = rs'
theorem neqReq (r r' : Rq) (h : r.ok) (h' : r'.ok) (w : World) :
    (binOp .neq 73 (.agg r.cells.toArray) (.agg r'.cells.toArray)).run Tryd.prog w = .ok (.bool (!(rqB r r'))) w := by
  unfold Rq.cells
  rw [run_neq_struct, reqEqIn 9997 r.c r.n r.s r.t r'.c r'.n r'.s r'.t h.tl h'.tl]; rfl
theorem Rq.not_plain {r : Rq} (h : ¬ r.plain) : r.c < 0 ∨ (¬ r.c < 0 ∧ 8 < r.c) ∨ (¬ r.c < 0 ∧ ¬ 8 < r.c ∧ r.n < 0) ∨ (¬ r.c < 0 ∧ ¬ 8 < r.c ∧ ¬ r.n < 0 ∧ 1099511627776 < r.n) ∨ (¬ r.c < 0 ∧ ¬ 8 < r.c ∧ ¬ r.n < 0 ∧ ¬ 1099511627776 < r.n ∧ (64 : Int) < r.s.size) := by
  by_cases h1 : r.c < 0
  · exact .inl h1
  by_cases h2 : 8 < r.c
  · exact .inr (.inl ⟨h1, h2⟩)
  by_cases h3 : r.n < 0
  · exact .inr (.inr (.inl ⟨h1, h2, h3⟩))
  by_cases h4 : 1099511627776 < r.n
  · exact .inr (.inr (.inr (.inl ⟨h1, h2, h3, h4⟩)))
  by_cases h5 : (64 : Int) < r.s.size
  · exact .inr (.inr (.inr (.inr ⟨h1, h2, h3, h4, h5⟩)))
  exact absurd ⟨by omega, by omega, by omega, by omega, by omega⟩ h
end Go.Proofs.YtogmkcabndgllaaDoor
namespace Go.Proofs.YtogmkcabndgllaaDoor
open Go.RowKit
open Sha Tal
set_option maxRecDepth 100000 in
set_option maxHeartbeats 2000000 in
theorem refBSame_any (q : Bool) (a : Option Addr) (cap : Nat) (rs : List Rq) (q' : Bool) (a' : Option Addr) (cap' : Nat) (rs' : List Rq) (w : World) (h : ReqsAt w a rs) (h' : ReqsAt w a' rs') :
    Calls Tryd.prog 18 #[batV q a rs.length cap, batV q' a' rs'.length cap'] w fun e w' => ((e = .returned (.bool true) ∧ eqBat q rs q' rs') ∨ (e = .returned (.bool false) ∧ ¬ eqBat q rs q' rs')) ∧ Below w.heap.size w w' := by
  unfold batV
  have hB1 : Below w.heap.size w ((w.alloc (.cells #[.bool q, .slice a rs.length cap] 24)).alloc (.cells #[.bool q', .slice a' rs'.length cap'] 24)) := ((Below.refl _ _).alloc (Nat.le_refl _) _).alloc (by simp) _
  have hbx := BatBox.mk w q a rs.length cap
  have hby := BatBox.mk (w.alloc (.cells #[.bool q, .slice a rs.length cap] 24)) q' a' rs'.length cap'
  have hbx := hbx.below ((Below.refl _ _).alloc (Nat.le_refl _) (.cells #[.bool q', .slice a' rs'.length cap'] 24))
  rw [World.size_alloc] at hby
  have hml := h.1
  have hml' := h'.1
  unfold maxLen at hml hml'
  have hall := h.2.1
  have hall' := h'.2.1
  have h1 := h.below hB1
  have h1' := h'.below hB1
  go_enter Tryd.func18, Tryd.ntmps18
  go_upto_region 1 with fail
  go_name_world w1 hw1
  rw [hw1] at hB1 hbx hby h1 h1'
  clear hw1
  obtain ⟨hX, c0, c1, _⟩ := hbx
  obtain ⟨hY, d0, d1, _⟩ := hby
  obtain ⟨X, hXe⟩ : ∃ X, Hid (w.heap.size = X) := ⟨_, hide rfl⟩
  obtain ⟨Y, hYe⟩ : ∃ Y, Hid (w.heap.size + 1 = Y) := ⟨_, hide rfl⟩
  rw [hYe.out] at hY d0 d1 ⊢
  rw [hXe.out] at hX c0 c1 ⊢
  by_cases hq : q = q'
  · by_cases hlen : rs.length = rs'.length
    · subst hq
      have HL := hide hlen
      have e0 : ((rs.length : Int) == rs'.length) = true := by simp; omega
      clear hlen
      cases q
      all_goals
        go_wp2
        go_loopw [5] (fun iv wr => ∃ k : Nat, k ≤ rs.length ∧ iv = .int .i64 (k : Int) ∧ Hid (∀ j (hj : j < rs.length) (hj' : j < rs'.length), j < k → rs[j] = rs'[j]) ∧ Below w1.heap.size w1 wr) (fun iv _ => rs.length - (intOf iv).toNat)
        case atStart => exact ⟨0, by omega, rfl, hide (fun j _ _ hj => absurd hj (by omega)), Below.refl _ _⟩
        case round =>
          clear c0 d0 e0
          obtain ⟨k, hk, rfl, HM, hB⟩ := hrel
          have c1' := (hB.cell (p := ⟨X, 1, none⟩) hX).trans c1
          by_cases hlt : k < rs.length
          · have k1 : (k : Int) < rs.length := by omega
            have hlt' : k < rs'.length := by have := HL.out; omega
            have k1' : (k : Int) < rs'.length := by omega
            obtain ⟨b, off, rfl, hb, hre⟩ := (h1.below hB).elem k hlt
            obtain ⟨b', off', rfl, hb', hre'⟩ := (h1'.below hB).elem k hlt'
            obtain ⟨r, hr⟩ : ∃ r, Hid (rs[k] = r) := ⟨_, hide rfl⟩
            obtain ⟨r', hr'⟩ : ∃ r', Hid (rs'[k] = r') := ⟨_, hide rfl⟩
            have hok : r.ok := by rw [← hr.out]; exact hall _ (List.getElem_mem hlt)
            have hok' : r'.ok := by rw [← hr'.out]; exact hall' _ (List.getElem_mem hlt')
            rw [hr.out] at hre
            rw [hr'.out] at hre'
            have HM' : Hid (r = r' → ∀ j (hj : j < rs.length) (hj' : j < rs'.length), j < k + 1 → rs[j] = rs'[j]) := hide (fun hp j hj hj' hjk => by
              by_cases e : j = k
              · subst e; rw [hr.out, hr'.out]; exact hp
              · exact HM.out j hj hj' (by omega))
            have HN' : Hid (r ≠ r' → rs ≠ rs') := hide (fun hp he => by
              apply hp
              rw [← hr.out, ← hr'.out]
              subst he
              rfl)
            clear hr hr' HM
            have hiu := hok.isz
            have hiu' := hok'.isz
            have hne := fun w0 => neqReq r r' hok hok' w0
            obtain ⟨u, hu⟩ : ∃ u, Hid (r.cells = u) := ⟨_, hide rfl⟩
            obtain ⟨u', hu'⟩ : ∃ u', Hid (r'.cells = u') := ⟨_, hide rfl⟩
            rw [hu.out] at hre hiu
            rw [hu'.out] at hre' hiu'
            simp only [hu.out, hu'.out] at hne
            clear hu hu' hok hok'
            by_cases hrr : r = r'
            · have e1 : rqB r r' = true := rqB_iff.2 hrr
              rw [e1] at hne
              simp only [Bool.not_true] at hne
              have HR := hide hrr
              clear hrr e1
              go_upto_region 6 with fail
              obtain ⟨w5, hw5⟩ : ∃ w5, wr.drew = w5 := ⟨_, rfl⟩
              have hB5 : Below w1.heap.size w1 w5 := by rw [← hw5]; exact hB.drew
              have hre5 : w5.rangeAt b (off + k * 19) u := by rw [← hw5]; exact (World.rangeAt_drew _ _ _ _).2 hre
              have hre5' : w5.rangeAt b' (off' + k * 19) u' := by rw [← hw5]; exact (World.rangeAt_drew _ _ _ _).2 hre'
              have hb5 : b < w5.heap.size := by rw [← hw5]; exact hb
              have hb5' : b' < w5.heap.size := by rw [← hw5]; exact hb'
              have c1 : ∀ w', Below w5.heap.size w5 w' → w'.cell? ⟨X, 1, none⟩ = some (.slice (some ⟨b, off, none⟩) rs.length cap) := fun w' hw' => ((hB5.trans (hw'.mono hB5.size)).cell (p := ⟨X, 1, none⟩) hX).trans c1
              have c2 : ∀ w', Below w5.heap.size w5 w' → w'.cell? ⟨Y, 1, none⟩ = some (.slice (some ⟨b', off', none⟩) rs'.length cap') := fun w' hw' => ((hB5.trans (hw'.mono hB5.size)).cell (p := ⟨Y, 1, none⟩) hY).trans d1
              refine hs_begin (S := (Below w5.heap.size w5)) 11 rfl (by kernel_rfl) ?_
              rw [hw5]
              clear hw5 c1' hB hre hre' hb hb'
              have hS : (Below w5.heap.size w5) w5 := Below.refl _ _
              refine hs_take (i := 0) (d := some 27) (v := ?_) rfl (by kernel_rfl) (by kernel_rfl) (by kernel_rfl) (by rfl) ?_ hS rfl ?_
              rotate_left
              · intro w' hw
                go_simp
                try with_reducible rfl
              simp only [Act.put, List.setIfInBounds_toArray, List.set_cons_zero, List.set_cons_succ]
              refine hs_take (i := 1) (d := some 28) (v := ?_) rfl (by kernel_rfl) (by kernel_rfl) (by kernel_rfl) (by rfl) ?_ hS rfl ?_
              rotate_left
              · intro w' hw
                have hc := c1 w' hw
                go_simp
                try with_reducible rfl
              simp only [Act.put, List.setIfInBounds_toArray, List.set_cons_zero, List.set_cons_succ]
              refine hs_take (i := 2) (d := some 29) (v := ?_) rfl (by kernel_rfl) (by kernel_rfl) (by kernel_rfl) (by rfl) ?_ hS rfl ?_
              rotate_left
              · intro w' hw
                go_simp
                try with_reducible rfl
              simp only [Act.put, List.setIfInBounds_toArray, List.set_cons_zero, List.set_cons_succ]
              refine hs_take (i := 3) (d := some 30) (v := ?_) rfl (by kernel_rfl) (by kernel_rfl) (by kernel_rfl) (by rfl) ?_ hS rfl ?_
              rotate_left
              · intro w' hw
                go_simp
                try with_reducible rfl
              simp only [Act.put, List.setIfInBounds_toArray, List.set_cons_zero, List.set_cons_succ]
              refine hs_take (i := 4) (d := some 31) (v := .agg u.toArray) rfl (by kernel_rfl) (by kernel_rfl) (by kernel_rfl) (by rfl) (fun w' hw => exec_load rfl rfl (run_loadVar_mid (P := Tryd.prog) w' b (off + k * 19) 73 u _ (range_below hre5 hw hb5) Tryd.underlying73 rfl hiu)) hS rfl ?_
              simp only [Act.put, List.setIfInBounds_toArray, List.set_cons_zero, List.set_cons_succ]
              refine hs_take (i := 5) (d := some 32) (v := ?_) rfl (by kernel_rfl) (by kernel_rfl) (by kernel_rfl) (by rfl) ?_ hS rfl ?_
              rotate_left
              · intro w' hw
                go_simp
                try with_reducible rfl
              simp only [Act.put, List.setIfInBounds_toArray, List.set_cons_zero, List.set_cons_succ]
              refine hs_take (i := 6) (d := some 33) (v := ?_) rfl (by kernel_rfl) (by kernel_rfl) (by kernel_rfl) (by rfl) ?_ hS rfl ?_
              rotate_left
              · intro w' hw
                have hc := c2 w' hw
                go_simp
                try with_reducible rfl
              simp only [Act.put, List.setIfInBounds_toArray, List.set_cons_zero, List.set_cons_succ]
              refine hs_take (i := 7) (d := some 34) (v := ?_) rfl (by kernel_rfl) (by kernel_rfl) (by kernel_rfl) (by rfl) ?_ hS rfl ?_
              rotate_left
              · intro w' hw
                go_simp
                try with_reducible rfl
              simp only [Act.put, List.setIfInBounds_toArray, List.set_cons_zero, List.set_cons_succ]
              refine hs_take (i := 8) (d := some 35) (v := ?_) rfl (by kernel_rfl) (by kernel_rfl) (by kernel_rfl) (by rfl) ?_ hS rfl ?_
              rotate_left
              · intro w' hw
                go_simp
                try with_reducible rfl
              simp only [Act.put, List.setIfInBounds_toArray, List.set_cons_zero, List.set_cons_succ]
              refine hs_take (i := 9) (d := some 36) (v := .agg u'.toArray) rfl (by kernel_rfl) (by kernel_rfl) (by kernel_rfl) (by rfl) (fun w' hw => exec_load rfl rfl (run_loadVar_mid (P := Tryd.prog) w' b' (off' + k * 19) 73 u' _ (range_below hre5' hw hb5') Tryd.underlying73 rfl hiu')) hS rfl ?_
              simp only [Act.put, List.setIfInBounds_toArray, List.set_cons_zero, List.set_cons_succ]
              refine hs_take (i := 10) (d := some 37) (v := .bool false) rfl (by kernel_rfl) (by kernel_rfl) (by kernel_rfl) (by rfl) (fun w' hw => by have hc := hne w'; go_simp) hS rfl ?_
              simp only [Act.put, List.setIfInBounds_toArray, List.set_cons_zero, List.set_cons_succ]
              refine hs_done (by kernel_rfl) ?_
              go_wp2
              go_roundw
              case rel => exact ⟨k + 1, by omega, by go_num, hide (HM'.out HR.out), hB5⟩
              case measure => simp [intOf]; omega
            · have e1 : rqB r r' = false := by
                cases hx : rqB r r'
                · rfl
                · exact absurd (rqB_iff.1 hx) hrr
              rw [e1] at hne
              simp only [Bool.not_false] at hne
              have HR := hide hrr
              clear hrr e1
              go_upto_region 6 with fail
              obtain ⟨w5, hw5⟩ : ∃ w5, wr.drew = w5 := ⟨_, rfl⟩
              have hB5 : Below w1.heap.size w1 w5 := by rw [← hw5]; exact hB.drew
              have hre5 : w5.rangeAt b (off + k * 19) u := by rw [← hw5]; exact (World.rangeAt_drew _ _ _ _).2 hre
              have hre5' : w5.rangeAt b' (off' + k * 19) u' := by rw [← hw5]; exact (World.rangeAt_drew _ _ _ _).2 hre'
              have hb5 : b < w5.heap.size := by rw [← hw5]; exact hb
              have hb5' : b' < w5.heap.size := by rw [← hw5]; exact hb'
              have c1 : ∀ w', Below w5.heap.size w5 w' → w'.cell? ⟨X, 1, none⟩ = some (.slice (some ⟨b, off, none⟩) rs.length cap) := fun w' hw' => ((hB5.trans (hw'.mono hB5.size)).cell (p := ⟨X, 1, none⟩) hX).trans c1
              have c2 : ∀ w', Below w5.heap.size w5 w' → w'.cell? ⟨Y, 1, none⟩ = some (.slice (some ⟨b', off', none⟩) rs'.length cap') := fun w' hw' => ((hB5.trans (hw'.mono hB5.size)).cell (p := ⟨Y, 1, none⟩) hY).trans d1
              refine hs_begin (S := (Below w5.heap.size w5)) 11 rfl (by kernel_rfl) ?_
              rw [hw5]
              clear hw5 c1' hB hre hre' hb hb'
              have hS : (Below w5.heap.size w5) w5 := Below.refl _ _
              refine hs_take (i := 0) (d := some 27) (v := ?_) rfl (by kernel_rfl) (by kernel_rfl) (by kernel_rfl) (by rfl) ?_ hS rfl ?_
              rotate_left
              · intro w' hw
                go_simp
                try with_reducible rfl
              simp only [Act.put, List.setIfInBounds_toArray, List.set_cons_zero, List.set_cons_succ]
              refine hs_take (i := 1) (d := some 28) (v := ?_) rfl (by kernel_rfl) (by kernel_rfl) (by kernel_rfl) (by rfl) ?_ hS rfl ?_
              rotate_left
              · intro w' hw
                have hc := c1 w' hw
                go_simp
                try with_reducible rfl
              simp only [Act.put, List.setIfInBounds_toArray, List.set_cons_zero, List.set_cons_succ]
              refine hs_take (i := 2) (d := some 29) (v := ?_) rfl (by kernel_rfl) (by kernel_rfl) (by kernel_rfl) (by rfl) ?_ hS rfl ?_
              rotate_left
              · intro w' hw
                go_simp
                try with_reducible rfl
              simp only [Act.put, List.setIfInBounds_toArray, List.set_cons_zero, List.set_cons_succ]
              refine hs_take (i := 3) (d := some 30) (v := ?_) rfl (by kernel_rfl) (by kernel_rfl) (by kernel_rfl) (by rfl) ?_ hS rfl ?_
              rotate_left
              · intro w' hw
                go_simp
                try with_reducible rfl
              simp only [Act.put, List.setIfInBounds_toArray, List.set_cons_zero, List.set_cons_succ]
              refine hs_take (i := 4) (d := some 31) (v := .agg u.toArray) rfl (by kernel_rfl) (by kernel_rfl) (by kernel_rfl) (by rfl) (fun w' hw => exec_load rfl rfl (run_loadVar_mid (P := Tryd.prog) w' b (off + k * 19) 73 u _ (range_below hre5 hw hb5) Tryd.underlying73 rfl hiu)) hS rfl ?_
              simp only [Act.put, List.setIfInBounds_toArray, List.set_cons_zero, List.set_cons_succ]
              refine hs_take (i := 5) (d := some 32) (v := ?_) rfl (by kernel_rfl) (by kernel_rfl) (by kernel_rfl) (by rfl) ?_ hS rfl ?_
              rotate_left
              · intro w' hw
                go_simp
                try with_reducible rfl
              simp only [Act.put, List.setIfInBounds_toArray, List.set_cons_zero, List.set_cons_succ]
              refine hs_take (i := 6) (d := some 33) (v := ?_) rfl (by kernel_rfl) (by kernel_rfl) (by kernel_rfl) (by rfl) ?_ hS rfl ?_
              rotate_left
              · intro w' hw
                have hc := c2 w' hw
                go_simp
                try with_reducible rfl
              simp only [Act.put, List.setIfInBounds_toArray, List.set_cons_zero, List.set_cons_succ]
              refine hs_take (i := 7) (d := some 34) (v := ?_) rfl (by kernel_rfl) (by kernel_rfl) (by kernel_rfl) (by rfl) ?_ hS rfl ?_
              rotate_left
              · intro w' hw
                go_simp
                try with_reducible rfl
              simp only [Act.put, List.setIfInBounds_toArray, List.set_cons_zero, List.set_cons_succ]
              refine hs_take (i := 8) (d := some 35) (v := ?_) rfl (by kernel_rfl) (by kernel_rfl) (by kernel_rfl) (by rfl) ?_ hS rfl ?_
              rotate_left
              · intro w' hw
                go_simp
                try with_reducible rfl
              simp only [Act.put, List.setIfInBounds_toArray, List.set_cons_zero, List.set_cons_succ]
              refine hs_take (i := 9) (d := some 36) (v := .agg u'.toArray) rfl (by kernel_rfl) (by kernel_rfl) (by kernel_rfl) (by rfl) (fun w' hw => exec_load rfl rfl (run_loadVar_mid (P := Tryd.prog) w' b' (off' + k * 19) 73 u' _ (range_below hre5' hw hb5') Tryd.underlying73 rfl hiu')) hS rfl ?_
              simp only [Act.put, List.setIfInBounds_toArray, List.set_cons_zero, List.set_cons_succ]
              refine hs_take (i := 10) (d := some 37) (v := .bool true) rfl (by kernel_rfl) (by kernel_rfl) (by kernel_rfl) (by rfl) (fun w' hw => by have hc := hne w'; go_simp) hS rfl ?_
              simp only [Act.put, List.setIfInBounds_toArray, List.set_cons_zero, List.set_cons_succ]
              refine hs_done (by kernel_rfl) ?_
              go_wp2
              go_ret
              exact ⟨.inr ⟨rfl, fun hh => HN'.out HR.out hh.2⟩, hB1.trans (hB5.mono hB1.size)⟩
          · have k1 : ¬ (k : Int) < rs.length := by omega
            have HE : Hid (rs = rs') := hide (List.ext_getElem HL.out (fun j hj hj' => HM.out j hj hj' (by omega)))
            clear HM
            go_wp2
            go_ret
            exact ⟨.inl ⟨rfl, ⟨rfl, HE.out⟩⟩, hB1.trans (hB.mono hB1.size)⟩
    · have e0 : ((rs.length : Int) == rs'.length) = false := by simp; omega
      subst hq
      have HL := hide hlen
      clear hlen
      cases q
      all_goals
        go_wp2
        go_ret
        exact ⟨.inr ⟨rfl, fun hh => HL.out (by rw [hh.2])⟩, hB1⟩
  · have HQ := hide hq
    clear hq
    cases q <;> cases q'
    · exact absurd rfl HQ.out
    · go_wp2
      go_ret
      exact ⟨.inr ⟨rfl, fun hh => HQ.out hh.1⟩, hB1⟩
    · go_wp2
      go_ret
      exact ⟨.inr ⟨rfl, fun hh => HQ.out hh.1⟩, hB1⟩
    · exact absurd rfl HQ.out
end Go.Proofs.YtogmkcabndgllaaDoor
namespace Go.Proofs.YtogmkcabndgllaaDoor
open Go.RowKit
open Sha Tal
def digB (q : Bool) (rs : List Rq) : List Int := sha (66 :: batL q rs)
theorem parts2 (w : World) (p q : Part) (hp : p.at w) (hq : q.at w) : PartsAt (w.alloc (.cells #[p.val, q.val] 80)) (some ⟨w.heap.size, 0, none⟩) [p, q] := by
  have hb : Below w.heap.size w (w.alloc (.cells #[p.val, q.val] 80)) := (Below.refl _ _).alloc (Nat.le_refl _) _
  refine ⟨by unfold maxLen; simp, fun x hx => ?_, Or.inr ⟨w.heap.size, 0, rfl, by simp, range_new w #[p.val, q.val] 80⟩⟩
  rcases List.mem_cons.1 hx with rfl | hx
  · exact hp.below hb
  · obtain rfl := List.mem_singleton.1 hx
    exact hq.below hb
theorem row66 (w : World) : RowAt (w.alloc (.cells #[.int .u8 66] 5)) (some ⟨w.heap.size, 0, none⟩) [66] :=
  ⟨by unfold maxLen; simp, by simp, Or.inr ⟨_, _, rfl, by simp, range_new w #[.int .u8 66] 5⟩⟩
theorem load32 {w : World} {b o : Nat} {t : List Int} (h : t.length = 32) (hr : w.rangeAt b o (v8 t)) : (loadVar 26 ⟨b, o, none⟩).run Tryd.prog w = .ok (.agg (v8 t).toArray) w :=
  run_loadVar_mid (P := Tryd.prog) w b o 26 (v8 t) _ hr Tryd.underlying26 rfl (by simpa using info24 t h)
theorem batL_pos (q : Bool) (rs : List Rq) : 0 < (batL q rs).length := by
  unfold batL
  cases q with
  | true => exact (by decide : 0 < (putL 0).length)
  | false =>
    have : 0 < (putL ((rs.length : Int) + 1)).length := by
      unfold putL
      rw [if_neg (by omega)]
      simp [numB]
    simp only [Bool.false_eq_true, if_false, List.length_append]
    omega
theorem wpList_append_run {P : Program} {ops : Array Oper} {rest : List Oper} {o : Oper} {a : Act} {w : World} {Q : Exit → Act → World → Prop} (hgd : o.guard = none) (s x : Operand) (t tx : TypeId)
    (ho : o.op = .call { callee := .builtin .append, args := #[s, x], argTypes := #[t, tx] }) (v xv v' : Value) (w' : World) (hv : a.eval s = v) (hx : a.eval x = xv)
    (hr : (Builtin.append_ #[t, tx] o.type #[v, xv]).run P w = .ok v' w') (h : wpList P ops Q rest (a.put o.dst v') w') : wpList P ops Q (o :: rest) a w := by
  refine wpList_plain hgd fun K hK => ?_
  unfold Oper.wp execOp
  simp only [ho, resolve, invoke, builtin, Sem.run_bind, Sem.run_pure, Result.andThen_ok, List.map_toArray, List.map_cons, List.map_nil, hv, hx, hr]
  exact hK _ _ h
theorem append66 (w : World) (b : Nat) (F : List Int) (a : Option Addr) (cap : Nat) (hrow : w.rangeAt b 0 (v8 [66])) (hF : RowAt w a F) (h0 : 0 < F.length) (hl : F.length ≤ 1000000) :
    ∃ v' w', (Builtin.append_ #[80, 80] 80 #[.slice (some ⟨b, 0, none⟩) 1 1, .slice a F.length cap]).run Tryd.prog w = .ok v' w' ∧ Mine w' w.heap.size v' (66 :: F) ∧ Below w.heap.size w w' := by
  obtain ⟨i, hi, hz, hsz, hby⟩ := info_parts info8
  have hs := hF.src cap
  have holds : ∀ j u, (v8 [66])[j]? = some u → w.drew.cell? ((⟨b, 0, none⟩ : Addr).add j) = some u := fun j u hu => by rw [Addr.add_mid]; exact hrow j u hu
  have h63' : ((1 + F.length : Nat) : Int) ≤ 9223372036854775807 := by omega
  have hr := run_append_grow_src (P := Tryd.prog) w 80 80 80 5 i (.int .u8 0) Tryd.underlying80 hi hz (some ⟨b, 0, none⟩) 1 1 (v8 [66]) (run_firstCells_some w.drew i.size 1 ⟨b, 0, none⟩ 1 1 (v8 [66]) (by rw [hsz]; rfl) holds) (.slice a F.length cap) F.length (v8 F) (by rw [hsz]; exact hs) (by omega) h63' (growslice_fits (by omega) (by rw [hby]; omega))
  refine ⟨_, _, hr, ?_, ?_⟩
  · have hge := grownCap_ge w (1 + F.length) 1 5
    have hcm : grownCap w (1 + F.length) 1 5 ≤ maxLen := grownCap_le_maxLen w (1 + F.length) 1 5 (by unfold maxLen; omega)
    have hlen : (v8 [66] ++ v8 F).length = 1 + F.length := by simp [v8]; omega
    have hown : (w.drew.alloc (.cells ((v8 [66] ++ v8 F).toArray ++ Builtin.zeroCells (Value.int .u8 0).cells (grownCap w (1 + F.length) 1 5 - (1 + F.length))) 5)).ownsRow w.heap.size 5 1
        (.slice (some ⟨w.heap.size, 0, none⟩) (1 + F.length) (grownCap w (1 + F.length) 1 5)) (1 + F.length) (v8 [66] ++ v8 F) := by
      refine ⟨by rw [hlen]; omega, .inr ⟨w.heap.size, _, _, rfl, Nat.le_refl _, heap_alloc_new w.drew _, hge, hcm, ?_, ?_⟩⟩
      · simp only [Array.size_append, List.size_toArray, size_zeroCells, hlen]
        show 1 + F.length + (grownCap w (1 + F.length) 1 5 - (1 + F.length)) * 1 = _
        omega
      · simp only [Array.toList_append]
        rw [show (1 + F.length) * 1 = (v8 [66] ++ v8 F).length by rw [hlen]; omega]
        exact List.take_left
    exact Mine.mk' (66 :: F) hown (by simp; omega) (by simp [v8]) (by
      intro z hz'
      rcases List.mem_cons.1 hz' with rfl | hz'
      · omega
      · exact hF.2.1 z hz')
  · exact ((Below.refl _ _).drew).alloc (by simp) _
set_option maxRecDepth 100000 in
set_option maxHeartbeats 2000000 in
theorem bdig_any (q : Bool) (a : Option Addr) (cap : Nat) (rs : List Rq) (w : World) (hG : Glob w) (h : ReqsAt w a rs) (hn : rs.length ≤ 200) (hs : ∀ r ∈ rs, r.s.size ≤ 4000) :
    Calls Tryd.prog 24 #[batV q a rs.length cap] w fun e w' => e = .returned (.agg (v8 (digB q rs)).toArray) ∧ Below w.heap.size w w' := by
  have lF := batL_le q rs hn h.2.1 hs
  have cf := fun w0 h0 => bytesOf_any q a cap rs w0 h0 hn hs
  unfold batV at cf ⊢
  obtain ⟨m, hm⟩ : ∃ m, Hid (digB q rs = m) := ⟨_, hide rfl⟩
  have hml : m.length = 32 := by rw [← hm.out]; exact sha_length _
  rw [hm.out]
  have HM : Hid (sha (66 :: batL q rs) = m) := hm
  obtain ⟨F, hF⟩ : ∃ F, Hid (batL q rs = F) := ⟨_, hide rfl⟩
  have hF0 := batL_pos q rs
  rw [hF.out] at lF HM hF0
  simp only [hF.out] at cf
  clear hF hm
  have hB1 : Below w.heap.size w ((w.alloc (.cells #[.bool q, .slice a rs.length cap] 24)).alloc (.cells (Array.replicate 32 (.int .u8 0)) 26)) := ((Below.refl _ _).alloc (Nat.le_refl _) _).alloc (by simp) _
  have hb1 := (BatBox.mk w q a rs.length cap).below ((Below.refl _ _).alloc (Nat.le_refl _) (.cells (Array.replicate 32 (.int .u8 0)) 26))
  have hT1 := (new_bytes (w.alloc (.cells #[.bool q, .slice a rs.length cap] 24)) 32 26).2
  rw [World.size_alloc] at hT1
  have hs1 : w.heap.size + 1 < ((w.alloc (.cells #[.bool q, .slice a rs.length cap] 24)).alloc (.cells (Array.replicate 32 (.int .u8 0)) 26)).heap.size := by simp
  have h1 := h.below hB1
  have hib := batI q a rs.length cap
  go_enter Tryd.func24, Tryd.ntmps24
  go_upto_region 1 with fail
  go_name_world w1 hw1
  rw [show (w.alloc (.cells #[.bool q, .slice a rs.length cap] 24)).alloc (.cells (Array.replicate 32 (.int .u8 0)) 26) = w1 from hw1] at hB1 hb1 h1 hT1 hs1
  clear hw1
  obtain ⟨X, hXe⟩ : ∃ X, Hid (w.heap.size = X) := ⟨_, hide rfl⟩
  obtain ⟨Y, hYe⟩ : ∃ Y, Hid (w.heap.size + 1 = Y) := ⟨_, hide rfl⟩
  have hwY : w.heap.size ≤ Y := by rw [← hYe.out]; omega
  rw [hYe.out] at hT1 hs1 ⊢
  rw [hXe.out] at hb1 ⊢
  have hB2' : Below w1.heap.size w1 (w1.alloc (.cells #[.int .u8 66] 5)) := (Below.refl _ _).alloc (Nat.le_refl _) _
  have row2 := row66 w1
  try simp only [Act.put]
  refine wp_region_list ?_
  refine wpList_step fun K hK => ?_
  go_simp
  refine hK _ _ ?_
  clear hK K
  obtain ⟨w2, hw2⟩ : ∃ w2, w1.alloc (.cells #[.int .u8 66] 5) = w2 := ⟨_, rfl⟩
  rw [hw2] at hB2' row2 ⊢
  clear hw2
  have hb2 := hb1.below hB2'
  have h2 := h1.below hB2'
  have hB2 := hB1.trans (hB2'.mono hB1.size)
  have hT2 := there_below hT1 hB2' hs1
  have hs2 := Nat.lt_of_lt_of_le hs1 hB2'.size
  refine wpList_load_mid rfl 24 _ rfl _ _ rfl [.bool q, .slice a rs.length cap] _ hb2.2.2.2 Tryd.underlying24 rfl hib ?_
  go_wp2_with fail
  refine (cf w2 h2).mono ?_
  rintro e w3 ⟨v3, rfl, m3, hw3⟩
  have hB3 := hB2.trans (hw3.mono hB2.size)
  have hT3 := there_below hT2 hw3 hs2
  have hs3 := Nat.lt_of_lt_of_le hs2 hw3.size
  have row3 := row2.below hw3
  obtain ⟨a3, cap3, rfl, hc3, hm3, rowF⟩ := m3.rowAt (by unfold maxLen; omega)
  have hP := parts2 w3 ⟨some ⟨w1.heap.size, 0, none⟩, 1, [66]⟩ ⟨a3, cap3, F⟩ ⟨row3, by simp, by show 1 ≤ maxLen; unfold maxLen; omega⟩ ⟨rowF, hc3, hm3⟩
  have hcat : cat [(⟨some ⟨w1.heap.size, 0, none⟩, 1, [66]⟩ : Part), ⟨a3, cap3, F⟩] = 66 :: F := by simp [cat]
  have hB4' : Below w3.heap.size w3 (w3.alloc (.cells #[.slice (some ⟨w1.heap.size, 0, none⟩) 1 1, .slice a3 F.length cap3] 80)) := (Below.refl _ _).alloc (Nat.le_refl _) _
  have hB4 := hB3.trans (hB4'.mono hB3.size)
  have cs := sum_any (some ⟨w3.heap.size, 0, none⟩) 2 _ (w3.alloc (.cells #[.slice (some ⟨w1.heap.size, 0, none⟩) 1 1, .slice a3 F.length cap3] 80)) (hG.below hB4) hP (by rw [hcat]; simp; omega)
  rw [hcat, HM.out] at cs
  simp only [List.length_cons, List.length_nil, Nat.zero_add] at cs
  have hT4 := there_below hT3 hB4' hs3
  have hs4 := Nat.lt_of_lt_of_le hs3 hB4'.size
  clear cf h1 h2 hb1 hb2 hP hcat row2 row3 rowF m3
  go_wp2_with fail
  refine cs.mono ?_
  rintro e w5 ⟨rfl, hw5⟩
  clear cs
  have hB5 := hB4.trans (hw5.mono hB4.size)
  have hT5' := there_below hT4 hw5 hs4
  have hT5 : w5.there Y 0 (v8 m).toArray.size := by
    have e : (v8 m).toArray.size = 32 := by rw [List.size_toArray, v8_length, hml]
    rw [e]; exact hT5'
  have hi := info24 m hml
  have h1c := all_oneCell_toArray (v8_one m)
  have hRr := World.rangeAt_setCells_same w5 Y 0 (v8 m) (by rw [v8_length, hml]; exact hT5')
  have hBl := below_sets hwY (v8 m) 0 w5 hB5
  have hrs := load32 hml hRr
  clear hB4' hB2' hB4 hw5 hw3
  go_wp2_with (refine wpList_store_mid (op := ⟨none, .store 26 (.tmp 2) (.tmp 7), _, _, _, none⟩) rfl 26 _ _ rfl _ _ (v8 m).toArray rfl rfl hT5 hi h1c ?_)
  exact bodyPost_ret (v := .agg (v8 m).toArray) (by simp [results, Tryd.results24, asAddr, hrs, Act.put]) rfl ⟨rfl, hBl⟩
set_option maxRecDepth 100000 in
set_option maxHeartbeats 2000000 in
theorem refBdig_any (q : Bool) (a : Option Addr) (cap : Nat) (rs : List Rq) (w : World) (h : ReqsAt w a rs) (hn : rs.length ≤ 200) (hs : ∀ r ∈ rs, r.s.size ≤ 4000) :
    Calls Tryd.prog 21 #[batV q a rs.length cap] w fun e w' => e = .returned (.agg (v8 (digB q rs)).toArray) ∧ Below w.heap.size w w' := by
  obtain ⟨i0, hii, hz0, hz1, hz2⟩ := info_parts info8
  have lF := batL_le q rs hn h.2.1 hs
  have cf := fun w0 h0 => refBput_any none 0 [] q a cap rs w0 (nil_row w0) (by simp) h0 hn hs
  simp only [List.nil_append, List.length_nil] at cf
  unfold batV at cf ⊢
  obtain ⟨m, hm⟩ : ∃ m, Hid (digB q rs = m) := ⟨_, hide rfl⟩
  have hml : m.length = 32 := by rw [← hm.out]; exact sha_length _
  rw [hm.out]
  have HM : Hid (sha (66 :: batL q rs) = m) := hm
  obtain ⟨F, hF⟩ : ∃ F, Hid (batL q rs = F) := ⟨_, hide rfl⟩
  have hF0 := batL_pos q rs
  rw [hF.out] at lF HM hF0
  simp only [hF.out] at cf
  clear hF hm
  have hB1 : Below w.heap.size w ((w.alloc (.cells #[.bool q, .slice a rs.length cap] 24)).alloc (.cells (Array.replicate 32 (.int .u8 0)) 26)) := ((Below.refl _ _).alloc (Nat.le_refl _) _).alloc (by simp) _
  have hb1 := (BatBox.mk w q a rs.length cap).below ((Below.refl _ _).alloc (Nat.le_refl _) (.cells (Array.replicate 32 (.int .u8 0)) 26))
  have hT1 := (new_bytes (w.alloc (.cells #[.bool q, .slice a rs.length cap] 24)) 32 26).2
  rw [World.size_alloc] at hT1
  have hs1 : w.heap.size + 1 < ((w.alloc (.cells #[.bool q, .slice a rs.length cap] 24)).alloc (.cells (Array.replicate 32 (.int .u8 0)) 26)).heap.size := by simp
  have h1 := h.below hB1
  have hib := batI q a rs.length cap
  go_enter Tryd.func21, Tryd.ntmps21
  go_upto_region 1 with fail
  go_name_world w1 hw1
  rw [show (w.alloc (.cells #[.bool q, .slice a rs.length cap] 24)).alloc (.cells (Array.replicate 32 (.int .u8 0)) 26) = w1 from hw1] at hB1 hb1 h1 hT1 hs1
  clear hw1
  obtain ⟨X, hXe⟩ : ∃ X, Hid (w.heap.size = X) := ⟨_, hide rfl⟩
  obtain ⟨Y, hYe⟩ : ∃ Y, Hid (w.heap.size + 1 = Y) := ⟨_, hide rfl⟩
  have hwY : w.heap.size ≤ Y := by rw [← hYe.out]; omega
  rw [hYe.out] at hT1 hs1 ⊢
  rw [hXe.out] at hb1 ⊢
  have hcv := Lib.run_convert_bytes_const (P := Tryd.prog) w1 80 5 #[.int .u8 66] 1 1 Tryd.underlying80 Tryd.underlying5
  have hB2' : Below w1.heap.size w1 (w1.alloc (.cells #[.int .u8 66] 5 (1, 2))) := (Below.refl _ _).alloc (Nat.le_refl _) _
  have row2 : (w1.alloc (.cells #[.int .u8 66] 5 (1, 2))).rangeAt w1.heap.size 0 (v8 [66]) := range_mark w1 #[.int .u8 66] 5 (1, 2)
  have hsz2 : w1.heap.size < (w1.alloc (.cells #[.int .u8 66] 5 (1, 2))).heap.size := by simp
  try simp only [Act.put]
  refine wp_region_list ?_
  refine wpList_step fun K hK => ?_
  go_simp
  refine hK _ _ ?_
  clear hK K
  refine wpList_step fun K hK => ?_
  go_simp
  refine hK _ _ ?_
  clear hK K
  clear hcv
  obtain ⟨w2, hw2⟩ : ∃ w2, w1.alloc (.cells #[.int .u8 66] 5 (1, 2)) = w2 := ⟨_, rfl⟩
  rw [hw2] at hB2' row2 hsz2 ⊢
  clear hw2
  have hb2 := hb1.below hB2'
  have h2 := h1.below hB2'
  have hB2 := hB1.trans (hB2'.mono hB1.size)
  have hT2 := there_below hT1 hB2' hs1
  have hs2 := Nat.lt_of_lt_of_le hs1 hB2'.size
  refine wpList_load_mid rfl 24 _ rfl _ _ rfl [.bool q, .slice a rs.length cap] _ hb2.2.2.2 Tryd.underlying24 rfl hib ?_
  go_wp2_with fail
  refine (cf w2 h2).mono ?_
  rintro e w3 ⟨v3, rfl, m3, hw3⟩
  have hB3 := hB2.trans (hw3.mono hB2.size)
  have hT3 := there_below hT2 hw3 hs2
  have hs3 := Nat.lt_of_lt_of_le hs2 hw3.size
  have row3 := range_below row2 hw3 hsz2
  obtain ⟨a3, cap3, rfl, hc3, hm3, rowF⟩ := m3.rowAt (by unfold maxLen; omega)
  obtain ⟨v4, w4, hr4, m4, hw4⟩ := append66 w3 w1.heap.size F a3 cap3 row3 rowF hF0 (by omega)
  obtain ⟨a4, cap4, rfl, hc4, hm4, row4⟩ := m4.rowAt (by unfold maxLen; simp; omega)
  have hB4 := hB3.trans (hw4.mono hB3.size)
  have hT4 := there_below hT3 hw4 hs3
  have hs4 := Nat.lt_of_lt_of_le hs3 hw4.size
  have cs := refSum_any a4 cap4 (66 :: F) w4 row4 (by simp; omega)
  rw [HM.out] at cs
  obtain ⟨G, hG⟩ : ∃ G, Hid (66 :: F = G) := ⟨_, hide rfl⟩
  rw [hG.out] at cs hr4
  clear cf h1 h2 hb1 hb2 row2 row3 rowF m3 m4 row4
  go_wp2_with (at_builtin; refine wpList_append_run rfl _ _ 80 80 rfl _ _ _ _ rfl rfl hr4 ?_)
  refine cs.mono ?_
  rintro e w5 ⟨rfl, hw5⟩
  clear cs
  have hB5 := hB4.trans (hw5.mono hB4.size)
  have hT5' := there_below hT4 hw5 hs4
  have hT5 : w5.there Y 0 (v8 m).toArray.size := by
    have e : (v8 m).toArray.size = 32 := by rw [List.size_toArray, v8_length, hml]
    rw [e]; exact hT5'
  have hi := info24 m hml
  have h1c := all_oneCell_toArray (v8_one m)
  have hRr := World.rangeAt_setCells_same w5 Y 0 (v8 m) (by rw [v8_length, hml]; exact hT5')
  have hBl := below_sets hwY (v8 m) 0 w5 hB5
  have hrs := load32 hml hRr
  clear hB2' hB4 hw5 hw3 hw4
  go_wp2_with (refine wpList_store_mid (op := ⟨none, .store 26 (.tmp 2) (.tmp 8), _, _, _, none⟩) rfl 26 _ _ rfl _ _ (v8 m).toArray rfl rfl hT5 hi h1c ?_)
  exact bodyPost_ret (v := .agg (v8 m).toArray) (by simp [results, Tryd.results21, asAddr, hrs, Act.put]) rfl ⟨rfl, hBl⟩
end Go.Proofs.YtogmkcabndgllaaDoor
namespace Go.Proofs.YtogmkcabndgllaaDoor
open Go Go.RowKit
section
variable {P : Program} {ops : Array Oper} {Q : Exit → Act → World → Prop}
def StepS (P : Program) (ops : Array Oper) (Q : Exit → Act → World → Prop) (S : World → Prop) (fuel : Nat) (listed : Array Bool) (i : Nat) (a : Act) (w : World) : Prop :=
  wpOp P ops (NoPanic Q) i (fun a' w' => S w' ∧ wpAnyH P .any ops (NoPanic Q) S fuel (listed.setIfInBounds i true) a' w') a w
theorem hs_fork {i j : Nat} {S : World → Prop} {fuel : Nat} {listed : Array Bool} {a : Act} {w : World} (hr : Region.ready .any ops listed = [i, j])
    (h1 : StepS P ops Q S fuel listed i a w) (h2 : StepS P ops Q S fuel listed j a w) : HeldS P ops Q S (fuel + 1) listed a w := by
  refine wpAnyH_all hr (by simp) ?_
  intro k hk
  rcases List.mem_cons.1 hk with rfl | hk
  · exact h1
  · obtain rfl := List.mem_singleton.1 hk
    exact h2
theorem st_call {i : Nat} {S : World → Prop} {oi : Oper} {d : Option Nat} {f : FuncId} {args : Array Value} {fuel : Nat} {listed : Array Bool} {a : Act} {w : World} (hi : ops[i]? = some oi)
    (hw : Region.wanted oi (yielded ops a.tmps) = true) (hy : (execOp a.eval oi).run P w = .ok (.enter f args) w) (hdst : oi.dst = d)
    (h : Calls P f args w fun e w' => ∃ v, e = .returned v ∧ S w' ∧ HeldS P ops Q S fuel (listed.setIfInBounds i true) (a.put d v) w') : StepS P ops Q S fuel listed i a w := by
  subst hdst
  unfold StepS wpOp
  simp only [hi, hw, if_true]
  left
  unfold Oper.wp
  rw [hy]
  refine h.mono ?_
  rintro e w' ⟨v, rfl, hb, hk⟩
  exact ⟨hb, hk⟩
theorem st_run {i : Nat} {S : World → Prop} {oi : Oper} {d : Option Nat} {v : Value} {fuel : Nat} {listed : Array Bool} {a : Act} {w w' : World} (hi : ops[i]? = some oi)
    (hw : Region.wanted oi (yielded ops a.tmps) = true) (hy : (execOp a.eval oi).run P w = .ok (.value v) w') (hdst : oi.dst = d)
    (hS : S w') (h : HeldS P ops Q S fuel (listed.setIfInBounds i true) (a.put d v) w') : StepS P ops Q S fuel listed i a w := by
  subst hdst
  unfold StepS wpOp
  simp only [hi, hw, if_true]
  left
  unfold Oper.wp
  rw [hy]
  exact ⟨hS, h⟩
end
end Go.Proofs.YtogmkcabndgllaaDoor
namespace Go.Proofs.YtogmkcabndgllaaDoor
open Go.RowKit
open Sha Tal
def I64 (z : Int) : Prop := -9223372036854775808 ≤ z ∧ z ≤ 9223372036854775807
def B8 (zs : List Int) : Prop := ∀ z ∈ zs, 0 ≤ z ∧ z < 256
structure Vt where
  k : Int
  e : Int
  v : Int
  s : Int
  d : List Int
deriving DecidableEq, Inhabited
structure Vt.ok (x : Vt) : Prop where
  k : I64 x.k
  e : I64 x.e
  v : I64 x.v
  s : I64 x.s
  dl : x.d.length = 32
  db : B8 x.d
def Vt.cells (x : Vt) : List Value := .int .i64 x.k :: .int .i64 x.e :: .int .i64 x.v :: .int .i64 x.s :: v8 x.d
theorem Vt.ok.len {x : Vt} (h : x.ok) : x.cells.length = 36 := by
  have := h.dl
  simp [Vt.cells, v8]
  omega
theorem Vt.one (x : Vt) : ∀ v ∈ x.cells, v.oneCell' = true := by
  intro v hv
  simp only [Vt.cells, List.mem_cons] at hv
  rcases hv with rfl | rfl | rfl | rfl | hv
  · rfl
  · rfl
  · rfl
  · rfl
  · exact v8_one x.d v hv
theorem Vt.four {w : World} {b i : Nat} {x : Vt} (h : w.rangeAt b i x.cells) : w.cell? ⟨b, i, none⟩ = some (.int .i64 x.k) ∧ w.cell? ⟨b, i + 1, none⟩ = some (.int .i64 x.e) ∧ w.cell? ⟨b, i + 2, none⟩ = some (.int .i64 x.v) ∧ w.cell? ⟨b, i + 3, none⟩ = some (.int .i64 x.s) :=
  ⟨h 0 _ rfl, h 1 _ rfl, h 2 _ rfl, h 3 _ rfl⟩
theorem Vt.dig {w : World} {b i : Nat} {x : Vt} (h : w.rangeAt b i x.cells) : w.rangeAt b (i + 4) (v8 x.d) := fun j u hu => by
  have := h (4 + j) u (by rw [Nat.add_comm]; exact hu)
  rwa [← Nat.add_assoc] at this
def vt0 : Vt := ⟨0, 0, 0, 0, List.replicate 32 0⟩
theorem vt0_ok : vt0.ok := ⟨by unfold I64; decide, by unfold I64; decide, by unfold I64; decide, by unfold I64; decide, by decide, by unfold B8; decide⟩
structure Sg where
  n : Int
  t : List Int
deriving DecidableEq, Inhabited
structure Sg.ok (r : Sg) : Prop where
  tl : r.t.length = 16
  tb : B8 r.t
  n : I64 r.n
def Sg.cells (r : Sg) : List Value := .int .i64 r.n :: v8 r.t
theorem Sg.ok.length {r : Sg} (h : r.ok) : r.cells.length = 17 := by
  have := h.tl
  simp [Sg.cells, v8]
  omega
theorem Sg.one (r : Sg) : ∀ v ∈ r.cells, v.oneCell' = true := by
  intro v hv
  rcases List.mem_cons.1 hv with rfl | hv
  · rfl
  · exact v8_one r.t v hv
theorem Sg.tag {w : World} {b i : Nat} {x : Sg} (h : w.rangeAt b i x.cells) : w.rangeAt b (i + 1) (v8 x.t) := fun j u hu => by
  have := h (1 + j) u (by rw [Nat.add_comm]; exact hu)
  rwa [← Nat.add_assoc] at this
theorem iszD : (Tryd.prog.info? 26).map (·.size) = some 32 := by kernel_rfl
theorem fldV : (Tryd.prog.fieldsOf 28).toList.map (fun f => (f.name, f.type, f.offset)) = [("Kind", 3, 0), ("Epoch", 3, 1), ("View", 3, 2), ("Slot", 3, 3), ("Digest", 26, 4)] := by kernel_rfl
theorem undV : Tryd.prog.underlying 28 = some (.struct (Tryd.prog.fieldsOf 28)) := by kernel_rfl
theorem sihV : Tryd.prog.stoodInHeld 28 = false := by kernel_rfl
theorem fldS : (Tryd.prog.fieldsOf 101).toList.map (fun f => (f.name, f.type, f.offset)) = [("Node", 3, 0), ("Tag", 71, 1)] := by kernel_rfl
theorem undS : Tryd.prog.underlying 101 = some (.struct (Tryd.prog.fieldsOf 101)) := by kernel_rfl
theorem sihS : Tryd.prog.stoodInHeld 101 = false := by kernel_rfl
theorem part_intV (w : World) (q : List Value) (i : Nat) (c : Int) (h : q[i]? = some (.int .i64 c)) : (part 3 q.toArray i).run Tryd.prog w = .ok (.int .i64 c) w := by
  simp [part, isAgg, run_underlying Tryd.underlying3, h]
theorem part_digV (w : World) (x : Vt) (hd : x.d.length = 32) : (part 26 x.cells.toArray 4).run Tryd.prog w = .ok (.agg (v8 x.d).toArray) w := by
  have hx : List.take 32 (List.drop 4 x.cells) = v8 x.d := by
    show List.take 32 (v8 x.d) = v8 x.d
    rw [List.take_of_length_le (by rw [v8_length, hd]; exact Nat.le_refl _)]
  simp [part, isAgg, run_underlying Tryd.underlying26, run_size iszD, hx]
theorem part_tagS (w : World) (x : Sg) (hd : x.t.length = 16) : (part 71 x.cells.toArray 1).run Tryd.prog w = .ok (.agg (v8 x.t).toArray) w := by
  have hx : List.take 16 x.cells.tail = v8 x.t := by
    show List.take 16 (v8 x.t) = v8 x.t
    rw [List.take_of_length_le (by rw [v8_length, hd]; exact Nat.le_refl _)]
  simp [part, isAgg, run_underlying Tryd.underlying71, run_size iszT, hx]
def vtB (x y : Vt) : Bool := (x.k == y.k) && ((x.e == y.e) && ((x.v == y.v) && ((x.s == y.s) && (x.d == y.d))))
theorem vtB_iff {x y : Vt} : vtB x y = true ↔ x = y := by
  obtain ⟨k, e, v, s, d⟩ := x
  obtain ⟨k', e', v', s', d'⟩ := y
  simp [vtB]
theorem vtB_dec (x y : Vt) : vtB x y = decide (x = y) := by
  by_cases h : x = y
  · rw [decide_eq_true h]; exact vtB_iff.2 h
  · rw [decide_eq_false h]
    cases hb : vtB x y
    · rfl
    · exact absurd (vtB_iff.1 hb) h
theorem vtEqIn (x y : Vt) (hx : x.d.length = 32) (hy : y.d.length = 32) (d : Nat) (w : World) :
    (Op.equalIn (d + 2 + 1) 28 (.agg x.cells.toArray) (.agg y.cells.toArray)).run Tryd.prog w = .ok (vtB x y) w := by
  rw [run_equalIn_struct w (d + 2) 28 _ _ undV sihV]
  have hf := fldV
  generalize (Tryd.prog.fieldsOf 28).toList = fs at hf
  obtain ⟨f0, f1, f2, f3, f4, rfl⟩ : ∃ f0 f1 f2 f3 f4, fs = [f0, f1, f2, f3, f4] := by
    rcases fs with _ | ⟨f0, _ | ⟨f1, _ | ⟨f2, _ | ⟨f3, _ | ⟨f4, _ | ⟨f5, fs⟩⟩⟩⟩⟩⟩ <;> simp at hf
    exact ⟨f0, f1, f2, f3, f4, rfl⟩
  simp only [List.map_cons, List.map_nil, List.cons.injEq, Prod.mk.injEq, and_true] at hf
  obtain ⟨⟨a0, b0, d0⟩, ⟨a1, b1, d1⟩, ⟨a2, b2, d2⟩, ⟨a3, b3, d3⟩, ⟨a4, b4, d4⟩⟩ := hf
  have p0 := part_intV w x.cells 0 x.k rfl
  have q0 := part_intV w y.cells 0 y.k rfl
  have p1 := part_intV w x.cells 1 x.e rfl
  have q1 := part_intV w y.cells 1 y.e rfl
  have p2 := part_intV w x.cells 2 x.v rfl
  have q2 := part_intV w y.cells 2 y.v rfl
  have p3 := part_intV w x.cells 3 x.s rfl
  have q3 := part_intV w y.cells 3 y.s rfl
  have p4 := part_digV w x hx
  have q4 := part_digV w y hy
  have e0 := fun a b => run_equalIn_int (P := Tryd.prog) w (d + 1) 3 .i64 .i64 a b Tryd.underlying3
  have e4 := run_equal8 (P := Tryd.prog) w d 26 5 32 Tryd.underlying26 Tryd.underlying5 isz8 x.d y.d hx hy
  unfold vtB
  generalize x.cells.toArray = q at *
  generalize y.cells.toArray = q' at *
  obtain ⟨T, hT⟩ : ∃ T, (v8 x.d).toArray = T := ⟨_, rfl⟩
  obtain ⟨T', hT'⟩ : ∃ T, (v8 y.d).toArray = T := ⟨_, rfl⟩
  rw [hT] at p4 e4
  rw [hT'] at q4 e4
  clear hT hT'
  obtain ⟨D, hD⟩ : ∃ D, d + 1 + 1 = D := ⟨_, rfl⟩
  have e4 : (Op.equalIn (d + 1 + 1) 26 (.agg T) (.agg T')).run Tryd.prog w = .ok (x.d == y.d) w := e4
  rw [hD] at e4
  have n0 : ¬ ("Kind" = "_") := by decide
  have n1 : ¬ ("Epoch" = "_") := by decide
  have n2 : ¬ ("View" = "_") := by decide
  have n3 : ¬ ("Slot" = "_") := by decide
  have n4 : ¬ ("Digest" = "_") := by decide
  simp only [Op.eqFields, a0, a1, a2, a3, a4, b0, b1, b2, b3, b4, d0, d1, d2, d3, d4, ne_eq, n0, n1, n2, n3, n4, not_false_eq_true, if_true]
  rw [show d + 2 = d + 1 + 1 from rfl, hD]
  rw [hD] at e0
  clear hD
  simp only [Sem.run_bind, p0, q0, Result.andThen_ok, e0]
  cases (x.k == y.k)
  · simp only [Bool.not_false, if_true, Sem.run_pure, Bool.false_and]
  · simp only [Bool.not_true, Bool.false_eq_true, if_false, Sem.run_bind, p1, q1, Result.andThen_ok, e0, Bool.true_and]
    cases (x.e == y.e)
    · simp only [Bool.not_false, if_true, Sem.run_pure, Bool.false_and]
    · simp only [Bool.not_true, Bool.false_eq_true, if_false, Sem.run_bind, p2, q2, Result.andThen_ok, e0, Bool.true_and]
      cases (x.v == y.v)
      · simp only [Bool.not_false, if_true, Sem.run_pure, Bool.false_and]
      · simp only [Bool.not_true, Bool.false_eq_true, if_false, Sem.run_bind, p3, q3, Result.andThen_ok, e0, Bool.true_and]
        cases (x.s == y.s)
        · simp only [Bool.not_false, if_true, Sem.run_pure, Bool.false_and]
        · simp only [Bool.not_true, Bool.false_eq_true, if_false, Sem.run_bind, p4, q4, Result.andThen_ok, e4, Bool.true_and]
          cases (x.d == y.d)
          · simp only [Bool.not_false, if_true, Sem.run_pure]
          · simp only [Bool.not_true, Bool.false_eq_true, if_false, Sem.run_pure]
theorem eqV (x y : Vt) (hx : x.ok) (hy : y.ok) (w : World) : (binOp .eql 28 (.agg x.cells.toArray) (.agg y.cells.toArray)).run Tryd.prog w = .ok (.bool (decide (x = y))) w := by
  rw [run_eql_struct, vtEqIn x y hx.dl hy.dl 9997 w, ← vtB_dec]; rfl
theorem neqV (x y : Vt) (hx : x.ok) (hy : y.ok) (w : World) : (binOp .neq 28 (.agg x.cells.toArray) (.agg y.cells.toArray)).run Tryd.prog w = .ok (.bool (!decide (x = y))) w := by
  rw [run_neq_struct, vtEqIn x y hx.dl hy.dl 9997 w, ← vtB_dec]; rfl
theorem eqT (x y : List Int) (hx : x.length = 16) (hy : y.length = 16) (w : World) : (binOp .eql 71 (.agg (v8 x).toArray) (.agg (v8 y).toArray)).run Tryd.prog w = .ok (.bool (x == y)) w := by
  rw [run_eql_struct, run_equal8 w 9998 71 5 16 Tryd.underlying71 Tryd.underlying5 isz8 x y hx hy]; rfl
theorem neqT (x y : List Int) (hx : x.length = 16) (hy : y.length = 16) (w : World) : (binOp .neq 71 (.agg (v8 x).toArray) (.agg (v8 y).toArray)).run Tryd.prog w = .ok (.bool (!(x == y))) w := by
  rw [run_neq_struct, run_equal8 w 9998 71 5 16 Tryd.underlying71 Tryd.underlying5 isz8 x y hx hy]; rfl
theorem neqD (x y : List Int) (hx : x.length = 32) (hy : y.length = 32) (w : World) : (binOp .neq 26 (.agg (v8 x).toArray) (.agg (v8 y).toArray)).run Tryd.prog w = .ok (.bool (!(x == y))) w := by
  rw [run_neq_struct, run_equal8 w 9998 26 5 32 Tryd.underlying26 Tryd.underlying5 isz8 x y hx hy]; rfl
theorem sgEqIn (x y : Sg) (hx : x.t.length = 16) (hy : y.t.length = 16) (d : Nat) (w : World) :
    (Op.equalIn (d + 2 + 1) 101 (.agg x.cells.toArray) (.agg y.cells.toArray)).run Tryd.prog w = .ok ((x.n == y.n) && (x.t == y.t)) w := by
  rw [run_equalIn_struct w (d + 2) 101 _ _ undS sihS]
  have hf := fldS
  generalize (Tryd.prog.fieldsOf 101).toList = fs at hf
  obtain ⟨f0, f1, rfl⟩ : ∃ f0 f1, fs = [f0, f1] := by
    rcases fs with _ | ⟨f0, _ | ⟨f1, _ | ⟨f2, fs⟩⟩⟩ <;> simp at hf
    exact ⟨f0, f1, rfl⟩
  simp only [List.map_cons, List.map_nil, List.cons.injEq, Prod.mk.injEq, and_true] at hf
  obtain ⟨⟨a0, b0, d0⟩, ⟨a1, b1, d1⟩⟩ := hf
  have p0 := part_intV w x.cells 0 x.n rfl
  have q0 := part_intV w y.cells 0 y.n rfl
  have p4 := part_tagS w x hx
  have q4 := part_tagS w y hy
  have e0 := fun a b => run_equalIn_int (P := Tryd.prog) w (d + 1) 3 .i64 .i64 a b Tryd.underlying3
  have e4 := run_equal8 (P := Tryd.prog) w d 71 5 16 Tryd.underlying71 Tryd.underlying5 isz8 x.t y.t hx hy
  generalize x.cells.toArray = q at *
  generalize y.cells.toArray = q' at *
  obtain ⟨T, hT⟩ : ∃ T, (v8 x.t).toArray = T := ⟨_, rfl⟩
  obtain ⟨T', hT'⟩ : ∃ T, (v8 y.t).toArray = T := ⟨_, rfl⟩
  rw [hT] at p4 e4
  rw [hT'] at q4 e4
  clear hT hT'
  obtain ⟨D, hD⟩ : ∃ D, d + 1 + 1 = D := ⟨_, rfl⟩
  have e4 : (Op.equalIn (d + 1 + 1) 71 (.agg T) (.agg T')).run Tryd.prog w = .ok (x.t == y.t) w := e4
  rw [hD] at e4
  have n0 : ¬ ("Node" = "_") := by decide
  have n1 : ¬ ("Tag" = "_") := by decide
  simp only [Op.eqFields, a0, a1, b0, b1, d0, d1, ne_eq, n0, n1, not_false_eq_true, if_true]
  rw [show d + 2 = d + 1 + 1 from rfl, hD]
  rw [hD] at e0
  clear hD
  simp only [Sem.run_bind, p0, q0, Result.andThen_ok, e0]
  cases (x.n == y.n)
  · simp only [Bool.not_false, if_true, Sem.run_pure, Bool.false_and]
  · simp only [Bool.not_true, Bool.false_eq_true, if_false, Sem.run_bind, p4, q4, Result.andThen_ok, e4, Bool.true_and]
    cases (x.t == y.t)
    · simp only [Bool.not_false, if_true, Sem.run_pure]
    · simp only [Bool.not_true, Bool.false_eq_true, if_false, Sem.run_pure]
theorem eqS (x y : Sg) (hx : x.ok) (hy : y.ok) (w : World) : (binOp .eql 101 (.agg x.cells.toArray) (.agg y.cells.toArray)).run Tryd.prog w = .ok (.bool ((x.n == y.n) && (x.t == y.t))) w := by
  rw [run_eql_struct, sgEqIn x y hx.tl hy.tl 9997 w]; rfl
theorem neqS (x y : Sg) (hx : x.ok) (hy : y.ok) (w : World) : (binOp .neq 101 (.agg x.cells.toArray) (.agg y.cells.toArray)).run Tryd.prog w = .ok (.bool (!((x.n == y.n) && (x.t == y.t)))) w := by
  rw [run_neq_struct, sgEqIn x y hx.tl hy.tl 9997 w]; rfl
theorem all_oneS {cs : List Value} (h : ∀ v ∈ cs, v.oneCell' = true) : cs.toArray.all (·.oneCell') = true := by
  rw [Array.all_eq_true_iff_forall_mem]
  intro v hv
  exact h v (by simpa using hv)
theorem there_newN (w : World) (arr : Array Value) (t : TypeId) {n : Nat} (h : arr.size = n) : (w.alloc (.cells arr t)).there w.heap.size 0 n := h ▸ there_new w arr t
/-- signs in memory -/
def flatS (rs : List Sg) : List Value := rs.flatMap Sg.cells
def SigsAt (w : World) (a : Option Addr) (rs : List Sg) : Prop :=
  rs.length ≤ maxLen ∧ (∀ r ∈ rs, r.ok) ∧ (rs = [] ∨ ∃ b off, a = some ⟨b, off, none⟩ ∧ b < w.heap.size ∧ w.rangeAt b off (flatS rs))
theorem SigsAt.below {w w' : World} {a : Option Addr} {rs : List Sg} (h : SigsAt w a rs) (hb : Below w.heap.size w w') : SigsAt w' a rs := by
  refine ⟨h.1, h.2.1, ?_⟩
  rcases h.2.2 with h | ⟨b, off, rfl, h1, h2⟩
  · exact Or.inl h
  · exact Or.inr ⟨b, off, rfl, Nat.lt_of_lt_of_le h1 hb.size, range_below h2 hb h1⟩
theorem SigsAt.none {w : World} {a : Option Addr} : SigsAt w a [] := ⟨by simp, by simp, .inl rfl⟩
/-- a cert -/
structure Ce where
  v : Vt
  a : Option Addr
  cap : Nat
  ss : List Sg
def Ce.cells (c : Ce) : List Value := c.v.cells ++ [.slice c.a c.ss.length c.cap]
structure Ce.at (c : Ce) (w : World) : Prop where
  v : c.v.ok
  s : SigsAt w c.a c.ss
  le : c.ss.length ≤ c.cap
  cm : c.cap ≤ maxLen
theorem Ce.at.below {c : Ce} {w w' : World} (h : c.at w) (hb : Below w.heap.size w w') : c.at w' := ⟨h.v, h.s.below hb, h.le, h.cm⟩
theorem Ce.len {c : Ce} (h : c.v.ok) : c.cells.length = 37 := by simp [Ce.cells, h.len]
theorem Ce.one (c : Ce) : ∀ v ∈ c.cells, v.oneCell' = true := by
  intro v hv
  rcases List.mem_append.1 hv with q | q
  · exact c.v.one v q
  · simp only [List.mem_singleton] at q
    subst q
    rfl
theorem Bat.one (x : Bat) : ∀ v ∈ x.cells, v.oneCell' = true := by
  intro v hv
  simp only [Bat.cells, List.mem_cons, List.not_mem_nil, or_false] at hv
  rcases hv with rfl | rfl <;> rfl
/-- a batch that is not too great -/
structure Bat.lt (x : Bat) : Prop where
  n : x.rs.length ≤ 200
  s : ∀ r ∈ x.rs, r.s.size ≤ 4000
def Bat.dig (x : Bat) : List Int := digB x.q x.rs
theorem Bat.dig_len (x : Bat) : x.dig.length = 32 := sha_length _
/-- a slot -/
structure Sl where
  vw : Int
  b : Bat
  is : Bool
  hb : Bat
  hc : Ce
  ho : Bool
  es : Int
  eb : Bat
  ec : Ce
  de : Bool
def heldC (b : Bat) (c : Ce) : List Value := b.cells ++ c.cells
def entC (n : Int) (b : Bat) (c : Ce) : List Value := .int .i64 n :: (b.cells ++ c.cells)
def Sl.cells (s : Sl) : List Value := [.int .i64 s.vw] ++ (s.b.cells ++ ([.bool s.is] ++ (heldC s.hb s.hc ++ ([.bool s.ho] ++ (entC s.es s.eb s.ec ++ [.bool s.de])))))
structure Sl.vok (s : Sl) : Prop where
  h : s.hc.v.ok
  e : s.ec.v.ok
theorem heldC_len {b : Bat} {c : Ce} (h : c.v.ok) : (heldC b c).length = 39 := by simp [heldC, Ce.len h, Bat.cells]
theorem entC_len {n : Int} {b : Bat} {c : Ce} (h : c.v.ok) : (entC n b c).length = 40 := by simp [entC, Ce.len h, Bat.cells]
theorem heldC_one (b : Bat) (c : Ce) : ∀ v ∈ heldC b c, v.oneCell' = true := by
  intro v hv
  rcases List.mem_append.1 hv with q | q
  · exact b.one v q
  · exact c.one v q
theorem entC_one (n : Int) (b : Bat) (c : Ce) : ∀ v ∈ entC n b c, v.oneCell' = true := by
  intro v hv
  rcases List.mem_cons.1 hv with rfl | q
  · rfl
  · exact heldC_one b c v q
theorem Sl.len {s : Sl} (h : s.vok) : s.cells.length = 85 := by
  simp [Sl.cells, heldC_len h.h, entC_len h.e, Bat.cells]
theorem Sl.one (s : Sl) : ∀ v ∈ s.cells, v.oneCell' = true := by
  intro v hv
  simp only [Sl.cells, List.mem_append, List.mem_singleton] at hv
  rcases hv with rfl | q | rfl | q | rfl | q | rfl
  · rfl
  · exact s.b.one v q
  · rfl
  · exact heldC_one _ _ v q
  · rfl
  · exact entC_one _ _ _ v q
  · rfl
def bat0 : Bat := ⟨false, none, 0, []⟩
def ce0 : Ce := ⟨vt0, none, 0, []⟩
def sl0 : Sl := ⟨0, bat0, false, bat0, ce0, false, 0, bat0, ce0, false⟩
theorem sl0_vok : sl0.vok := ⟨vt0_ok, vt0_ok⟩
/-- a slot's cells lie in block Z -/
structure SlAt (w : World) (Z : Nat) (s : Sl) : Prop where
  lt : Z < w.heap.size
  th : w.there Z 0 85
  r : w.rangeAt Z 0 s.cells
theorem SlAt.below {w w' : World} {Z : Nat} {s : Sl} (h : SlAt w Z s) (hb : Below w.heap.size w w') : SlAt w' Z s :=
  ⟨Nat.lt_of_lt_of_le h.lt hb.size, there_below h.th hb h.lt, range_below h.r hb h.lt⟩
structure SlParts (w : World) (Z : Nat) (s : Sl) : Prop where
  vw : w.cell? ⟨Z, 0, none⟩ = some (.int .i64 s.vw)
  b : w.rangeAt Z 1 s.b.cells
  is : w.cell? ⟨Z, 3, none⟩ = some (.bool s.is)
  h : w.rangeAt Z 4 (heldC s.hb s.hc)
  hb : w.rangeAt Z 4 s.hb.cells
  hc : w.rangeAt Z 6 s.hc.cells
  hv : w.rangeAt Z 6 s.hc.v.cells
  ho : w.cell? ⟨Z, 43, none⟩ = some (.bool s.ho)
  e : w.rangeAt Z 44 (entC s.es s.eb s.ec)
  es : w.cell? ⟨Z, 44, none⟩ = some (.int .i64 s.es)
  eb : w.rangeAt Z 45 s.eb.cells
  ec : w.rangeAt Z 47 s.ec.cells
  ev : w.rangeAt Z 47 s.ec.v.cells
  de : w.cell? ⟨Z, 84, none⟩ = some (.bool s.de)
theorem ent_parts {w : World} {Z o : Nat} {n : Int} {b : Bat} {c : Ce} (h : w.rangeAt Z o (entC n b c)) : w.cell? ⟨Z, o, none⟩ = some (.int .i64 n) ∧ w.rangeAt Z (o + 1) b.cells ∧ w.rangeAt Z (o + 3) c.cells := by
  have h1 : w.rangeAt Z o ([Value.int .i64 n] ++ (b.cells ++ c.cells)) := h
  have h2 := range_right h1
  simp only [List.length_cons, List.length_nil, Nat.zero_add] at h2
  have h3 := range_right h2
  simp only [Bat.cells, List.length_cons, List.length_nil, Nat.zero_add, Nat.reduceAdd, Nat.add_assoc] at h3
  exact ⟨h 0 _ rfl, range_left h2, h3⟩
theorem held_parts {w : World} {Z o : Nat} {b : Bat} {c : Ce} (h : w.rangeAt Z o (heldC b c)) : w.rangeAt Z o b.cells ∧ w.rangeAt Z (o + 2) c.cells := by
  have h3 := range_right h
  simp only [Bat.cells, List.length_cons, List.length_nil, Nat.zero_add, Nat.reduceAdd] at h3
  exact ⟨range_left h, h3⟩
theorem Sl.parts {w : World} {Z : Nat} {s : Sl} (hv : s.vok) (h : w.rangeAt Z 0 s.cells) : SlParts w Z s := by
  unfold Sl.cells at h
  have h1 := range_right h
  simp only [List.length_cons, List.length_nil, Nat.zero_add] at h1
  have h2 := range_right h1
  simp only [Bat.cells, List.length_cons, List.length_nil, Nat.zero_add, Nat.reduceAdd] at h2
  have h3 := range_right h2
  simp only [List.length_cons, List.length_nil, Nat.zero_add, Nat.reduceAdd] at h3
  have h4 := range_right h3
  rw [heldC_len hv.h] at h4
  simp only [Nat.reduceAdd] at h4
  have h5 := range_right h4
  simp only [List.length_cons, List.length_nil, Nat.zero_add, Nat.reduceAdd] at h5
  have h6 := range_right h5
  rw [entC_len hv.e] at h6
  simp only [Nat.reduceAdd] at h6
  obtain ⟨a1, a2⟩ := held_parts (range_left h3)
  obtain ⟨b1, b2, b3⟩ := ent_parts (range_left h5)
  exact ⟨h 0 _ rfl, range_left h1, h2 0 _ rfl, range_left h3, a1, a2, range_left a2, h4 0 _ rfl, range_left h5, b1, b2, b3, range_left b3, h6 0 _ rfl⟩
theorem SlAt.parts {w : World} {Z : Nat} {s : Sl} (h : SlAt w Z s) (hv : s.vok) : SlParts w Z s := Sl.parts hv h.r
theorem box_put {w : World} {Z n : Nat} {pre mid post mid' : List Value} (hl : mid'.length = mid.length) (h : w.rangeAt Z 0 (pre ++ (mid ++ post))) (ht : w.there Z 0 n) (hn : pre.length + mid.length ≤ n) : (w.setCells Z pre.length mid').rangeAt Z 0 (pre ++ (mid' ++ post)) := by
  have h1 := range_left h
  have h2 := range_right (range_right h)
  rw [Nat.zero_add] at h2
  have k1 := World.rangeAt_setCells_apart h1 Z pre.length mid' (.inr (.inl (by omega)))
  have k2 := World.rangeAt_setCells_same w Z pre.length mid' (fun j hj => by have := ht (pre.length + j) (by omega); rwa [Nat.zero_add] at this)
  have k3 := World.rangeAt_setCells_apart h2 Z pre.length mid' (.inr (.inr (by omega)))
  refine range_join k1 (range_join (by rw [Nat.zero_add]; exact k2) ?_)
  rw [Nat.zero_add, hl]
  exact k3
theorem setCells_size (w : World) (b o : Nat) (vs : List Value) : (w.setCells b o vs).heap.size = w.heap.size := size_sets b vs o w
theorem SlAt.vw {w : World} {Z : Nat} {s : Sl} (h : SlAt w Z s) (x : Int) : SlAt (w.setCells Z 0 [.int .i64 x]) Z { s with vw := x } :=
  ⟨by rw [setCells_size]; exact h.lt, World.there_setCells h.th _ _ _, box_put (pre := []) (mid := [.int .i64 s.vw]) (n := 85) rfl h.r h.th (by simp)⟩
theorem SlAt.b {w : World} {Z : Nat} {s : Sl} (h : SlAt w Z s) (x : Bat) : SlAt (w.setCells Z 1 x.cells) Z { s with b := x } :=
  ⟨by rw [setCells_size]; exact h.lt, World.there_setCells h.th _ _ _, box_put (pre := [.int .i64 s.vw]) (mid := s.b.cells) (n := 85) rfl h.r h.th (by simp [Bat.cells])⟩
theorem SlAt.is {w : World} {Z : Nat} {s : Sl} (h : SlAt w Z s) (x : Bool) : SlAt (w.setCells Z 3 [.bool x]) Z { s with is := x } :=
  ⟨by rw [setCells_size]; exact h.lt, World.there_setCells h.th _ _ _, box_put (pre := .int .i64 s.vw :: s.b.cells) (mid := [.bool s.is]) (n := 85) rfl h.r h.th (by simp [Bat.cells])⟩
theorem SlAt.held {w : World} {Z : Nat} {s : Sl} (h : SlAt w Z s) (hv : s.vok) (x : Bat) (y : Ce) (hy : y.v.ok) : SlAt (w.setCells Z 4 (heldC x y)) Z { s with hb := x, hc := y } := by
  have hp : (.int .i64 s.vw :: (s.b.cells ++ [.bool s.is]) : List Value).length = 4 := by simp [Bat.cells]
  have := box_put (w := w) (Z := Z) (pre := .int .i64 s.vw :: (s.b.cells ++ [.bool s.is])) (mid := heldC s.hb s.hc) (mid' := heldC x y) (post := [.bool s.ho] ++ (entC s.es s.eb s.ec ++ [.bool s.de])) (n := 85) (by rw [heldC_len hv.h, heldC_len hy]) (by have := h.r; simpa [Sl.cells] using this) h.th (by rw [hp, heldC_len hv.h]; simp)
  rw [hp] at this
  exact ⟨by rw [setCells_size]; exact h.lt, World.there_setCells h.th _ _ _, by simpa [Sl.cells] using this⟩
theorem SlAt.ho {w : World} {Z : Nat} {s : Sl} (h : SlAt w Z s) (hv : s.vok) (x : Bool) : SlAt (w.setCells Z 43 [.bool x]) Z { s with ho := x } := by
  have hp : (.int .i64 s.vw :: (s.b.cells ++ ([.bool s.is] ++ heldC s.hb s.hc)) : List Value).length = 43 := by simp [heldC_len hv.h, Bat.cells]
  have := box_put (w := w) (Z := Z) (pre := .int .i64 s.vw :: (s.b.cells ++ ([.bool s.is] ++ heldC s.hb s.hc))) (mid := [.bool s.ho]) (mid' := [.bool x]) (post := entC s.es s.eb s.ec ++ [.bool s.de]) (n := 85) rfl (by have := h.r; simpa [Sl.cells] using this) h.th (by rw [hp]; simp)
  rw [hp] at this
  exact ⟨by rw [setCells_size]; exact h.lt, World.there_setCells h.th _ _ _, by simpa [Sl.cells] using this⟩
theorem SlAt.ent {w : World} {Z : Nat} {s : Sl} (h : SlAt w Z s) (hv : s.vok) (n : Int) (x : Bat) (y : Ce) (hy : y.v.ok) : SlAt (w.setCells Z 44 (entC n x y)) Z { s with es := n, eb := x, ec := y } := by
  have hp : (.int .i64 s.vw :: (s.b.cells ++ ([.bool s.is] ++ (heldC s.hb s.hc ++ [.bool s.ho]))) : List Value).length = 44 := by simp [heldC_len hv.h, Bat.cells]
  have := box_put (w := w) (Z := Z) (pre := .int .i64 s.vw :: (s.b.cells ++ ([.bool s.is] ++ (heldC s.hb s.hc ++ [.bool s.ho])))) (mid := entC s.es s.eb s.ec) (mid' := entC n x y) (post := [.bool s.de]) (n := 85) (by rw [entC_len hv.e, entC_len hy]) (by have := h.r; simpa [Sl.cells] using this) h.th (by rw [hp, entC_len hv.e]; simp)
  rw [hp] at this
  exact ⟨by rw [setCells_size]; exact h.lt, World.there_setCells h.th _ _ _, by simpa [Sl.cells] using this⟩
theorem SlAt.de {w : World} {Z : Nat} {s : Sl} (h : SlAt w Z s) (hv : s.vok) (x : Bool) : SlAt (w.setCells Z 84 [.bool x]) Z { s with de := x } := by
  have hp : (.int .i64 s.vw :: (s.b.cells ++ ([.bool s.is] ++ (heldC s.hb s.hc ++ ([.bool s.ho] ++ entC s.es s.eb s.ec)))) : List Value).length = 84 := by simp [heldC_len hv.h, entC_len hv.e, Bat.cells]
  have := box_put (w := w) (Z := Z) (pre := .int .i64 s.vw :: (s.b.cells ++ ([.bool s.is] ++ (heldC s.hb s.hc ++ ([.bool s.ho] ++ entC s.es s.eb s.ec))))) (mid := [.bool s.de]) (mid' := [.bool x]) (post := []) (n := 85) rfl (by have := h.r; simpa [Sl.cells] using this) h.th (by rw [hp]; simp)
  rw [hp] at this
  exact ⟨by rw [setCells_size]; exact h.lt, World.there_setCells h.th _ _ _, by simpa [Sl.cells] using this⟩
theorem iszB2 (x : Bat) : (Tryd.prog.info? 24).map (·.size) = some x.cells.length := iszB
theorem iszSl : (Tryd.prog.info? 37).map (·.size) = some 85 := by kernel_rfl
theorem iszCe : (Tryd.prog.info? 31).map (·.size) = some 37 := by kernel_rfl
theorem iszV : (Tryd.prog.info? 28).map (·.size) = some 36 := by kernel_rfl
theorem iszHe : (Tryd.prog.info? 33).map (·.size) = some 39 := by kernel_rfl
theorem iszEn : (Tryd.prog.info? 35).map (·.size) = some 40 := by kernel_rfl
theorem build_sl0 (w : World) : (Instr.build 37 #[]).run Tryd.prog w = .ok (.agg sl0.cells.toArray) w := by
  kernel_rfl
theorem build_bat0 (w : World) : (Instr.build 24 #[]).run Tryd.prog w = .ok (.agg bat0.cells.toArray) w := by
  kernel_rfl
theorem results_ct {fn : Func} {p u : Tmp} {ty : TypeId} (h : fn.results = #[.cell p ty, .tmp u]) (tmps : Array Value) (P : Program) (w : World) {a : Addr} {v : Value} (ha : tmps.getD p undef = .pointer (some a)) (hv : (loadVar ty a).run P w = .ok v w) : (results fn tmps).run P w = .ok (.tuple #[v, tmps.getD u undef]) w := by
  simp only [Array.getD_eq_getD_getElem?] at ha
  simp only [results, h]
  simp [Result.andThen, ha, asAddr, hv]
/-- what a slot's batches and certs must be -/
structure Sl.ok (s : Sl) (w : World) : Prop where
  b : s.b.at w
  bl : s.b.lt
  hb : s.hb.at w
  hbl : s.hb.lt
  eb : s.eb.at w
  ebl : s.eb.lt
  hc : s.hc.at w
  ec : s.ec.at w
theorem Sl.ok.below {s : Sl} {w w' : World} (h : s.ok w) (hb : Below w.heap.size w w') : s.ok w' := ⟨h.b.below hb, h.bl, h.hb.below hb, h.hbl, h.eb.below hb, h.ebl, h.hc.below hb, h.ec.below hb⟩
theorem Sl.ok.vok {s : Sl} {w : World} (h : s.ok w) : s.vok := ⟨h.hc.v, h.ec.v⟩
theorem Bat.dig_any (x : Bat) (w : World) (hG : Glob w) (h : x.at w) (hl : x.lt) : Calls Tryd.prog 24 #[.agg x.cells.toArray] w fun e w' => e = .returned (.agg (v8 x.dig).toArray) ∧ Below w.heap.size w w' :=
  bdig_any x.q x.a x.cap x.rs w hG h.1 hl.n hl.s
theorem Bat.xdig_any (x : Bat) (w : World) (h : x.at w) (hl : x.lt) : Calls Tryd.prog 21 #[.agg x.cells.toArray] w fun e w' => e = .returned (.agg (v8 x.dig).toArray) ∧ Below w.heap.size w w' :=
  refBdig_any x.q x.a x.cap x.rs w h.1 hl.n hl.s
/-- Accept -/
def acceptP (s : Sl) (view : Int) (b : Bat) : Sl × Int :=
  if view < 0 ∨ (s.is = true ∧ view < s.vw) then (sl0, 180)
  else if s.is = true ∧ s.vw = view then (if s.b.dig = b.dig then (s, 0) else (sl0, 181))
  else ({ s with vw := view, b := b, is := true }, 0)
/-- Hold -/
def holdP (s : Sl) (c : Ce) : Sl × Int :=
  if c.v.k ≠ 1 then (sl0, 181)
  else if s.is = false ∨ c.v.v ≠ s.vw then (sl0, 180)
  else if c.v.d ≠ s.b.dig then (sl0, 181)
  else if s.ho = true ∧ c.v.v ≤ s.hc.v.v then (s, 0)
  else ({ s with hb := s.b, hc := c, ho := true }, 0)
/-- Decide -/
def decideP (s : Sl) (b : Bat) (c : Ce) : Sl × Int :=
  if c.v.k ≠ 2 ∨ c.v.d ≠ b.dig then (sl0, 181)
  else if s.de = true then (if s.eb.dig = b.dig then (s, 0) else (sl0, 181))
  else ({ s with es := c.v.s, eb := b, ec := c, de := true }, 0)
/-- Known -/
def knownP (s : Sl) (d : List Int) : Bat × Bool :=
  if s.de = true ∧ s.eb.dig = d then (s.eb, true)
  else if s.is = true ∧ s.b.dig = d then (s.b, true)
  else if s.ho = true ∧ s.hb.dig = d then (s.hb, true)
  else (bat0, false)
end Go.Proofs.YtogmkcabndgllaaDoor
namespace Go.Proofs.YtogmkcabndgllaaDoor
open Go.RowKit
open Sha Tal
theorem fold_at (off : Nat) : ∀ (u : List Value) (k : Nat) (arr : Array Value), off + k + u.length ≤ arr.size → List.foldl (fun (cs : Array Value) (x : Value × Nat) => cs.setIfInBounds (off + x.snd) x.fst) arr (u.zipIdx k) = (arr.toList.take (off + k) ++ (u ++ arr.toList.drop (off + k + u.length))).toArray
  | [], k, arr, h => by simp
  | a :: u, k, arr, h => by
    simp only [List.length_cons] at h
    rw [List.zipIdx_cons, List.foldl_cons, fold_at off u (k + 1) _ (by simp; omega)]
    congr 1
    have hlt : off + k < arr.toList.length := by simp; omega
    rw [Array.toList_setIfInBounds]
    simp only [List.length_cons]
    rw [List.drop_set_of_lt (by omega), show off + (k + 1) + u.length = off + k + (u.length + 1) by omega, show off + (k + 1) = off + k + 1 by omega, List.take_succ_eq_append_getElem (by simpa using hlt), List.getElem_set_self, List.take_set_of_le (Nat.le_refl _)]
    simp
theorem fill_step {place : Nat → Option (Nat × Nat)} {i off n : Nat} {v : Value} {rest : List (Nat × Value)} {vs pre mid post : List Value} (hp : place i = some (off, n)) (hn : mid.length = n) (hpre : pre.length = off) (hv : v.cells = vs.toArray) (hl : vs.length = n) :
    Instr.fill place (pre ++ (mid ++ post)).toArray ((i, v) :: rest) = Instr.fill place (pre ++ (vs ++ post)).toArray rest := by
  subst hn hpre
  rw [Instr.fill, hp]
  simp only [hv, List.size_toArray, hl, ne_eq, not_true_eq_false, decide_false, Bool.false_or, List.length_append]
  rw [if_neg (by simp)]
  congr 1
  have := fold_at pre.length vs 0 (pre ++ (mid ++ post)).toArray (by simp; omega)
  simp only [Nat.add_zero] at this
  rw [show (vs.toArray.zipIdx.foldl (fun cs (x : Value × Nat) => cs.setIfInBounds (pre.length + x.2) x.1) (pre ++ (mid ++ post)).toArray) = List.foldl (fun (cs : Array Value) (x : Value × Nat) => cs.setIfInBounds (pre.length + x.snd) x.fst) (pre ++ (mid ++ post)).toArray (vs.zipIdx 0) by simp, this]
  congr 1
  rw [List.take_left, hl, ← List.append_assoc pre mid post, ← List.length_append, List.drop_left]
theorem build_fill {P : Program} {t : TypeId} {zs : List Value} {pl : Array (Nat × Nat)} {w : World} (hz : (zeroValue t).run P w = .ok (.agg zs.toArray) w) (hu : P.underlying t = some (.struct (P.fieldsOf t)))
    (hp : (((P.fieldsOf t).mapM fun f => do pure (f.offset, ← sizeOf f.type) : Sem (Array (Nat × Nat)))).run P w = .ok pl w) (parts : Array (Nat × Value)) (cs : List Value) (h : Instr.fill (pl[·]?) zs.toArray parts.toList = some cs.toArray) : (Instr.build t parts).run P w = .ok (.agg cs.toArray) w := by
  unfold Instr.build
  simp only [Sem.run_bind, hz, Result.andThen_ok, run_underlying hu]
  rw [hp]
  simp only [Result.andThen_ok, Value.cells]
  rw [h]
  rfl
theorem fill_two {pl : Array (Nat × Nat)} {n m : Nat} {z1 z2 c1 c2 : List Value} {v1 v2 : Value} (h0 : pl[0]? = some (0, n)) (h1 : pl[1]? = some (n, m)) (l1 : z1.length = n) (l2 : z2.length = m) (k1 : c1.length = n) (k2 : c2.length = m) (e1 : v1.cells = c1.toArray) (e2 : v2.cells = c2.toArray) :
    Instr.fill (pl[·]?) (z1 ++ z2).toArray [(0, v1), (1, v2)] = some (c1 ++ c2).toArray := by
  have s1 : z1 ++ z2 = [] ++ (z1 ++ z2) := rfl
  rw [s1, fill_step (off := 0) (n := n) (vs := c1) h0 l1 rfl e1 k1]
  have s2 : [] ++ (c1 ++ z2) = c1 ++ (z2 ++ []) := by simp
  rw [s2, fill_step (off := n) (n := m) (vs := c2) h1 l2 k1 e2 k2]
  simp [Instr.fill]
theorem ex_build {P : Program} {o : Oper} {a : Act} {w : World} {t : TypeId} {parts : List (Nat × Operand)} {vs : List (Nat × Value)} {v : Value} (ho : o.op = .build t parts.toArray) (hv : (parts.map fun (x : Nat × Operand) => (x.1, a.eval x.2)) = vs)
    (hr : (Instr.build t vs.toArray).run P w = .ok v w) : (execOp a.eval o).run P w = .ok (.value v) w := by
  subst hv
  have e : Array.map (fun (x : Nat × Operand) => (x.1, a.eval x.2)) parts.toArray = (parts.map fun (x : Nat × Operand) => (x.1, a.eval x.2)).toArray := by simp
  unfold execOp
  simp only [ho]
  rw [show (Instr.build t (Array.map (fun x => match x with | (i, x) => (i, a.eval x)) parts.toArray)) = Instr.build t (parts.map fun (x : Nat × Operand) => (x.1, a.eval x.2)).toArray from congrArg _ e]
  simp only [Sem.run_bind, hr, Result.andThen_ok, Sem.run_pure]
theorem wpList_build {P : Program} {ops : Array Oper} {rest : List Oper} {o : Oper} {a : Act} {w : World} {Q : Exit → Act → World → Prop} (hgd : Region.wanted o (yielded ops a.tmps) = true) (t : TypeId) (parts : List (Nat × Operand)) (ho : o.op = .build t parts.toArray) (vs : List (Nat × Value)) (v : Value) (hv : (parts.map fun (x : Nat × Operand) => (x.1, a.eval x.2)) = vs)
    (hr : (Instr.build t vs.toArray).run P w = .ok v w) (h : wpList P ops Q rest (a.put o.dst v) w) : wpList P ops Q (o :: rest) a w := by
  refine wpList_step fun K hK => ?_
  rw [if_pos hgd]
  unfold Oper.wp
  rw [ex_build ho hv hr]
  exact hK _ _ h
theorem fill_three {pl : Array (Nat × Nat)} {n m k : Nat} {z1 z2 z3 c1 c2 c3 : List Value} {v1 v2 v3 : Value} (h0 : pl[0]? = some (0, n)) (h1 : pl[1]? = some (n, m)) (h2 : pl[2]? = some (n + m, k)) (l1 : z1.length = n) (l2 : z2.length = m) (l3 : z3.length = k) (k1 : c1.length = n) (k2 : c2.length = m) (k3 : c3.length = k) (e1 : v1.cells = c1.toArray) (e2 : v2.cells = c2.toArray) (e3 : v3.cells = c3.toArray) :
    Instr.fill (pl[·]?) (z1 ++ (z2 ++ z3)).toArray [(0, v1), (1, v2), (2, v3)] = some (c1 ++ (c2 ++ c3)).toArray := by
  have s1 : z1 ++ (z2 ++ z3) = [] ++ (z1 ++ (z2 ++ z3)) := rfl
  rw [s1, fill_step (off := 0) (n := n) (vs := c1) h0 l1 rfl e1 k1]
  have s2 : [] ++ (c1 ++ (z2 ++ z3)) = c1 ++ (z2 ++ z3) := by simp
  rw [s2, fill_step (off := n) (n := m) (vs := c2) h1 l2 k1 e2 k2]
  have s3 : c1 ++ (c2 ++ z3) = (c1 ++ c2) ++ (z3 ++ []) := by simp
  rw [s3, fill_step (off := n + m) (n := k) (vs := c3) h2 l3 (by rw [List.length_append, k1, k2]) e3 k3]
  simp [Instr.fill]
set_option maxRecDepth 100000 in
theorem zeroHe (w : World) : (zeroValue 33).run Tryd.prog w = .ok (.agg (bat0.cells ++ ce0.cells).toArray) w := by kernel_rfl
set_option maxRecDepth 100000 in
theorem zeroEn (w : World) : (zeroValue 35).run Tryd.prog w = .ok (.agg ([Value.int .i64 0] ++ (bat0.cells ++ ce0.cells)).toArray) w := by kernel_rfl
set_option maxRecDepth 100000 in
theorem build_held (x : Bat) (y : Ce) (hy : y.v.ok) (w : World) : (Instr.build 33 #[(0, .agg x.cells.toArray), (1, .agg y.cells.toArray)]).run Tryd.prog w = .ok (.agg (heldC x y).toArray) w :=
  build_fill (zs := bat0.cells ++ ce0.cells) (pl := #[(0, 2), (2, 37)]) (zeroHe w) (by kernel_rfl) (by kernel_rfl) _ _ (fill_two rfl rfl rfl rfl rfl (Ce.len hy) rfl rfl)
set_option maxRecDepth 100000 in
theorem build_ent (n : Int) (x : Bat) (y : Ce) (hy : y.v.ok) (w : World) : (Instr.build 35 #[(0, .int .i64 n), (1, .agg x.cells.toArray), (2, .agg y.cells.toArray)]).run Tryd.prog w = .ok (.agg (entC n x y).toArray) w :=
  build_fill (zs := [Value.int .i64 0] ++ (bat0.cells ++ ce0.cells)) (pl := #[(0, 1), (1, 2), (3, 37)]) (zeroEn w) (by kernel_rfl) (by kernel_rfl) _ _ (fill_three (n := 1) (m := 2) (k := 37) (z1 := [Value.int .i64 0]) (z2 := bat0.cells) (z3 := ce0.cells) (c1 := [.int .i64 n]) (c2 := x.cells) (c3 := y.cells) rfl rfl rfl rfl rfl rfl rfl rfl (Ce.len hy) rfl rfl rfl)
theorem ex_bin {P : Program} {o : Oper} {a : Act} {w : World} {op : BinOp} {t t2 : TypeId} {x y : Operand} {u v : Array Value} {r : Value} (ho : o.op = .binOp op t x y t2) (hx : a.eval x = .agg u) (hy : a.eval y = .agg v) (hm : P.eqGuardType P.depth t = false) (hr : (binOp op t (.agg u) (.agg v)).run P w = .ok r w) : (execOp a.eval o).run P w = .ok (.value r) w := by
  unfold execOp
  simp only [ho, hx, hy, Sem.run_bind, run_eqGuard_agg w op t x y u v hm, Result.andThen_ok, hr, Sem.run_pure]
theorem ex_mid {P : Program} {op : Oper} {a : Act} {ty : TypeId} {x : Operand} (ho : op.op = .load ty x) {b o : Nat} (hx : a.eval x = .pointer (some ⟨b, o, none⟩)) {cs : List Value} {d : TypeDesc} {w : World} (hr : w.rangeAt b o cs) (hu : P.underlying ty = some d) (hd : d.isRow = true) (hi : (P.info? ty).map (·.size) = some cs.length) : (execOp a.eval op).run P w = .ok (.value (.agg cs.toArray)) w :=
  exec_load ho hx (run_loadVar_mid w b o ty cs d hr hu hd hi)
theorem ex_put {P : Program} {o : Oper} {a : Act} {w : World} {ty : TypeId} {x y : Operand} {b off : Nat} {cs : Array Value} (ho : o.op = .store ty x y) (hx : a.eval x = .pointer (some ⟨b, off, none⟩)) (hy : a.eval y = .agg cs) (ht : w.there b off cs.size) (hi : (P.info? ty).map (·.size) = some cs.size) (h1 : cs.all (·.oneCell') = true) : (execOp a.eval o).run P w = .ok .skip (w.setCells b off cs.toList) :=
  exec_store ho hx hy (run_storeVar_mid w b off ty cs ht hi h1)
theorem box3 {w w1 : World} {q r : List Value} {z : Array Value} {t1 t2 t3 : TypeId} (h : ((w.alloc (.cells q.toArray t1)).alloc (.cells r.toArray t2)).alloc (.cells z t3) = w1) :
    Below w.heap.size w w1 ∧ w1.rangeAt w.heap.size 0 q ∧ w1.there w.heap.size 0 q.length ∧ w1.rangeAt (w.heap.size + 1) 0 r ∧ w1.there (w.heap.size + 1 + 1) 0 z.size ∧ w.heap.size + 3 ≤ w1.heap.size := by
  subst h
  have hb1 : Below w.heap.size w (w.alloc (.cells q.toArray t1)) := (Below.refl _ _).alloc (Nat.le_refl _) _
  have hb2 : Below (w.heap.size + 1) (w.alloc (.cells q.toArray t1)) ((w.alloc (.cells q.toArray t1)).alloc (.cells r.toArray t2)) := (Below.refl _ _).alloc (by simp) _
  have hb3 : Below (w.heap.size + 2) ((w.alloc (.cells q.toArray t1)).alloc (.cells r.toArray t2)) (((w.alloc (.cells q.toArray t1)).alloc (.cells r.toArray t2)).alloc (.cells z t3)) := (Below.refl _ _).alloc (by simp) _
  have r2 := range_new (w.alloc (.cells q.toArray t1)) r.toArray t2
  have t3' := there_new ((w.alloc (.cells q.toArray t1)).alloc (.cells r.toArray t2)) z t3
  simp only [World.size_alloc] at r2 t3'
  refine ⟨hb1.trans ((hb2.mono (by omega)).trans (hb3.mono (by omega))), range_below (range_below (by simpa using range_new w q.toArray t1) hb2 (by omega)) hb3 (by omega), ?_, range_below (by simpa using r2) hb3 (by omega), t3', by simp⟩
  have := there_below (there_below (there_new w q.toArray t1) hb2 (by omega)) hb3 (by omega)
  simpa using this
theorem box4 {w w1 : World} {q r u : List Value} {z : Array Value} {t1 t2 t3 t4 : TypeId} (h : (((w.alloc (.cells q.toArray t1)).alloc (.cells r.toArray t2)).alloc (.cells u.toArray t3)).alloc (.cells z t4) = w1) :
    Below w.heap.size w w1 ∧ w1.rangeAt w.heap.size 0 q ∧ w1.there w.heap.size 0 q.length ∧ w1.rangeAt (w.heap.size + 1) 0 r ∧ w1.rangeAt (w.heap.size + 1 + 1) 0 u ∧ w1.there (w.heap.size + 1 + 1 + 1) 0 z.size ∧ w.heap.size + 4 ≤ w1.heap.size := by
  obtain ⟨h1, h2, h3, h4, h5, h6⟩ := box3 (w := w) (q := q) (r := r) (z := u.toArray) (t1 := t1) (t2 := t2) (t3 := t3) rfl
  have r3 := range_new ((w.alloc (.cells q.toArray t1)).alloc (.cells r.toArray t2)) u.toArray t3
  simp only [World.size_alloc] at r3
  subst h
  have hb4 : Below (w.heap.size + 3) (((w.alloc (.cells q.toArray t1)).alloc (.cells r.toArray t2)).alloc (.cells u.toArray t3)) ((((w.alloc (.cells q.toArray t1)).alloc (.cells r.toArray t2)).alloc (.cells u.toArray t3)).alloc (.cells z t4)) := (Below.refl _ _).alloc (by simp) _
  have t4' := there_new (((w.alloc (.cells q.toArray t1)).alloc (.cells r.toArray t2)).alloc (.cells u.toArray t3)) z t4
  simp only [World.size_alloc] at t4'
  exact ⟨h1.trans (hb4.mono (by omega)), range_below h2 hb4 (by omega), there_below h3 hb4 (by omega), range_below h4 hb4 (by omega), range_below (by simpa using r3) hb4 (by omega), t4', by simp⟩
theorem box1 {w w1 : World} {c : List Value} {z : Array Value} {t : TypeId} (h : (w.alloc (.cells z t)).setCells w.heap.size 0 c = w1) (h1 : c.length = z.size) :
    Below w.heap.size w w1 ∧ w1.rangeAt w.heap.size 0 c ∧ w.heap.size < w1.heap.size ∧ w1.there w.heap.size 0 z.size := by
  subst h
  obtain ⟨q1, q2, q3, q4⟩ := fresh_store w z t c h1
  exact ⟨q2, q1, by omega, q4⟩
end Go.Proofs.YtogmkcabndgllaaDoor
