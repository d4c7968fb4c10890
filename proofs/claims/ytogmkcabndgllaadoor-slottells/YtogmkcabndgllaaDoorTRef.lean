/- The document's own Put, PutText, Size of layer 1. -/
import Derived.Test.YtogmkcabndgllaaDoorTText
namespace Go.Proofs.YtogmkcabndgllaaDoor
open Go.RowKit
open Tal
theorem own_one (w : World) (x : Value) (B : Nat) (hB : B ≤ w.heap.size) : (w.alloc (.cells #[x] 5)).ownsRow B 5 1 (.slice (some ⟨w.heap.size, 0, none⟩) 1 1) 1 [x] :=
  ⟨by simp, .inr ⟨w.heap.size, 1, #[x], rfl, hB, heap_alloc_new w _, Nat.le_refl _, by unfold maxLen; omega, by simp, by simp⟩⟩
set_option maxRecDepth 20000 in
set_option maxHeartbeats 800000 in
theorem digits_any (n : Int) (w : World) (h0 : 0 ≤ n) (h1 : n ≤ 9223372036854775807) :
    Calls Tryd.prog 49 #[.int .i64 n] w fun e w' => ∃ v, e = .returned v ∧ Mine w' w.heap.size v (digs n.toNat) ∧ Below w.heap.size w w' := by
  obtain ⟨i0, hi, hz0, hz1, hz2⟩ := info_parts info8
  have hwl := wid_le n.toNat (by omega)
  have HL : Hid ((digs n.toNat).length ≤ 8) := by show _ ≤ _; rw [digs_length]; exact hwl
  clear hwl
  go_enter Tryd.func49, Tryd.ntmps49
  go_wp2_with fail
  go_loopw [0, 3] (fun q o wr => ∃ (m : Int) (os : List Int), 0 ≤ m ∧ m ≤ 9223372036854775807 ∧ q = .int .i64 m ∧ Hid (digs n.toNat = digs m.toNat ++ os) ∧ Mine wr w.heap.size o os ∧ Below w.heap.size w wr) (fun q _ _ => (intOf q).toNat)
  case atStart => exact ⟨n, [], h0, h1, rfl, by show _ = _; simp, ⟨World.ownsRow_nil _ _ _ _, by simp⟩, Below.refl _ _⟩
  case round =>
    obtain ⟨m, os, hm0, hm1, rfl, hd, hmi, hbr⟩ := hrel
    have hol : os.length ≤ 8 := by
      have := congrArg List.length hd.out
      have := HL.out
      rw [List.length_append] at *
      omega
    obtain ⟨a, cap, rfl, _, _, hro⟩ := hmi.rowAt (by unfold maxLen; omega)
    by_cases hlt : 0 < m
    · have hr' := (hro.below ((Below.refl wr.heap.size wr).alloc (Nat.le_refl _) (.cells #[.int .u8 (m % 256)] 5))).src cap
      go_wp2_with (at_builtin; refine wpList_append_own_src _ rfl _ _ 80 80 rfl w.heap.size 5 i0 (.int .u8 0) 1 1 Tryd.underlying80 hi hz0 hz1 hz2 rfl _ 1 _ rfl (own_one wr _ w.heap.size hbr.size) _ os.length _ rfl hr' ?c1 ?c2 ?c3 ?_)
      case c1 => unfold maxLen; omega
      case c2 => omega
      case c3 => have := hbr.size; simp; omega
      intro v1 w1 hown1 hgrow1
      have hb1 : Below w.heap.size w w1 := (hbr.alloc hbr.size _).grown hgrow1 (by have := hbr.size; simp; omega) (fun k hk => by simp [Value.ownBlock] at hk; have := hbr.size; omega)
      have hM1 : Mine w1 w.heap.size v1 ((m % 256) :: os) := by
        refine Mine.mk' _ hown1 (by simp; omega) rfl (fun z hz => ?_)
        simp only [List.mem_cons] at hz
        rcases hz with rfl | hz
        · omega
        · exact hmi.2 z hz
      have HD : Hid (digs n.toNat = digs (m / 256).toNat ++ (m % 256 :: os)) := by
        show _ = _
        have e1 : m.toNat / 256 = (m / 256).toNat := by omega
        have e2 : ((m.toNat % 256 : Nat) : Int) = m % 256 := by omega
        rw [hd.out, digs_succ m.toNat (by omega) (by omega), e1, e2, List.append_assoc]
        rfl
      clear hown1 hgrow1 hr' hmi
      go_wp2_with fail
      go_roundw
      case rel => exact ⟨m / 256, m % 256 :: os, by omega, by omega, rfl, HD, hM1, hb1⟩
      case measure => simp [intOf]; omega
    · obtain rfl : m = 0 := by omega
      have e : Hid (digs n.toNat = os) := by
        have := hd.out
        show _ = _
        rw [this]; show digs 0 ++ os = os; rw [digs_zero]; rfl
      go_wp2_with fail
      go_ret
      rw [e.out]
      exact ⟨_, rfl, hmi, hbr⟩

set_option maxRecDepth 20000 in
set_option maxHeartbeats 800000 in
theorem refPut_any (a : Option Addr) (cap : Nat) (zs : List Int) (n : Int) (w : World) (h : RowAt w a zs) (hm : zs.length ≤ 1099511627) (hn : n ≤ 9223372036854775807) :
    Calls Tryd.prog 39 #[.slice a zs.length cap, .int .i64 n] w fun e w' => ∃ v, e = .returned v ∧ Mine w' w.heap.size v (zs ++ putL n) ∧ Below w.heap.size w w' := by
  obtain ⟨i0, hi, hz0, hz1, hz2⟩ := info_parts info8
  have hsrc := (h.below ((Below.refl w.heap.size w).alloc (Nat.le_refl _) (.cells #[] 5))).src cap
  by_cases h0 : n < 0
  · have HP : Hid (putL n = []) := by show _ = _; simp [putL, h0]
    go_enter Tryd.func39, Tryd.ntmps39
    go_wp2_with (at_builtin; refine wpList_append_own_src _ rfl _ _ 80 80 rfl w.heap.size 5 i0 (.int .u8 0) 1 1 Tryd.underlying80 hi hz0 hz1 hz2 rfl _ 0 [] rfl (World.ownsRow_made w #[] 0 (Nat.le_refl _) (by simp) (by simp)) _ zs.length _ rfl hsrc ?c1 ?c2 ?c3 ?_)
    case c1 => unfold maxLen; omega
    case c2 => omega
    case c3 => simp
    intro v1 w1 hown1 hgrow1
    have hb1 : Below w.heap.size w w1 := ((Below.refl _ _).alloc (Nat.le_refl _) _).grown hgrow1 (by simp) (fun k hk => by simp [Value.ownBlock] at hk; omega)
    have hM1 : Mine w1 w.heap.size v1 zs := ⟨by simpa [v8] using hown1, h.2.1⟩
    go_wp2_with fail
    go_ret
    rw [HP.out, List.append_nil]
    exact ⟨_, rfl, hM1, hb1⟩
  · have HP : Hid (putL n = (wid n.toNat : Int) :: digs n.toNat) := by show _ = _; simp [putL, h0, numB]
    have hw := wid_le n.toNat (by omega)
    have hdl := digs_length n.toNat
    have hdb := digs_byte n.toNat
    have cd := fun w => digits_any n w (by omega) hn
    generalize digs n.toNat = D at *
    generalize hK : wid n.toNat = K at *
    have hdl' : D.length = K := hdl
    subst hdl'
    clear hK hdl
    go_enter Tryd.func39, Tryd.ntmps39
    go_wp2_with (at_builtin; refine wpList_append_own_src _ rfl _ _ 80 80 rfl w.heap.size 5 i0 (.int .u8 0) 1 1 Tryd.underlying80 hi hz0 hz1 hz2 rfl _ 0 [] rfl (World.ownsRow_made w #[] 0 (Nat.le_refl _) (by simp) (by simp)) _ zs.length _ rfl hsrc ?c1 ?c2 ?c3 ?_)
    case c1 => unfold maxLen; omega
    case c2 => omega
    intro v1 w1 hown1 hgrow1
    have hb1 : Below w.heap.size w w1 := ((Below.refl _ _).alloc (Nat.le_refl _) _).grown hgrow1 (by simp) (fun k hk => by simp [Value.ownBlock] at hk; omega)
    have hM1 : Mine w1 w.heap.size v1 zs := ⟨by simpa [v8] using hown1, h.2.1⟩
    clear hown1 hgrow1 hsrc
    go_wp2_with fail
    refine (cd _).mono ?_
    rintro e w2 ⟨v2, rfl, hM2, hb2⟩
    clear cd
    obtain ⟨a2, cap2, rfl, _, _, hr2⟩ := hM2.rowAt (by unfold maxLen; omega)
    have hM1' := hM1.below hb2
    have hb2' : Below w.heap.size w w2 := hb1.trans (hb2.mono hb1.size)
    go_wp2_with (at_builtin; refine wpList_append_own_src _ rfl _ _ 80 80 rfl w.heap.size 5 i0 (.int .u8 0) 1 1 Tryd.underlying80 hi hz0 hz1 hz2 rfl _ zs.length _ rfl (hM1'.1.alloc _) _ 1 _ rfl (b1_src _ _) ?d1 ?d2 ?d3 ?_)
    case d1 => unfold maxLen; omega
    case d2 => omega
    case d3 => have := hb2'.size; simp; omega
    intro v3 w3 hown3 hgrow3
    have hb3 : Below w.heap.size w w3 := below_grown (hb2'.alloc hb2'.size _) (by have := hb2'.size; simp; omega) (hM1'.1.alloc (.cells #[.int .u8 (D.length : Int)] 5)) hgrow3
    have hr3 : RowAt w3 a2 D := by
      have hga := hr2.below ((Below.refl w2.heap.size w2).alloc (Nat.le_refl _) (.cells #[.int .u8 (D.length : Int)] 5))
      refine ⟨hga.1, hga.2.1, ?_⟩
      rcases hga.2.2 with hx | ⟨b, off, rfl, hb, hc⟩
      · exact Or.inl hx
      · refine Or.inr ⟨b, off, rfl, Nat.lt_of_lt_of_le hb hgrow3.size, fun j u hu => hgrow3.cell (hc j u hu) ?_⟩
        have hl1 := (hM2.1.lt b rfl).1
        intro hcon
        have hl2 := (hM1.1.lt b hcon.symm).2
        have := hM1.1.lt b hcon.symm
        omega
    go_wp2_with (at_builtin; refine wpList_append_own_src _ rfl _ _ 80 80 rfl w.heap.size 5 i0 (.int .u8 0) 1 1 Tryd.underlying80 hi hz0 hz1 hz2 rfl _ (zs.length + 1) _ rfl hown3 _ D.length _ rfl (hr3.src cap2) ?e1 ?e2 ?e3 ?_)
    case e1 => unfold maxLen; omega
    case e2 => omega
    case e3 => exact hb3.size
    intro v4 w4 hown4 hgrow4
    have hb4 := below_grown hb3 hb3.size hown3 hgrow4
    have hM4 : Mine w4 w.heap.size v4 (zs ++ putL n) := by
      rw [HP.out]
      refine Mine.mk' _ hown4 (by simp; omega) (by simp [v8]) (fun z hz => ?_)
      simp only [List.mem_append, List.mem_cons] at hz
      rcases hz with hz | rfl | hz
      · exact h.2.1 z hz
      · omega
      · exact hdb z hz
    clear hown4 hgrow4 hown3 hgrow3
    go_wp2_with fail
    go_ret
    exact ⟨_, rfl, hM4, hb4⟩

set_option maxRecDepth 20000 in
set_option maxHeartbeats 800000 in
theorem refPutText_any (a : Option Addr) (cap : Nat) (zs : List Int) (s : ByteArray) (w : World) (h : RowAt w a zs) (hm : zs.length ≤ 1099511627) (hs : s.size ≤ 1099511627) :
    Calls Tryd.prog 50 #[.slice a zs.length cap, .string s] w fun e w' => ∃ v, e = .returned v ∧ Mine w' w.heap.size v (zs ++ textL s) ∧ Below w.heap.size w w' := by
  obtain ⟨i0, hi, hz0, hz1, hz2⟩ := info_parts info8
  have hpl := putL_length (s.size : Int) (by omega)
  have cp := refPut_any a cap zs (s.size : Int) w h hm (by omega)
  have HT : Hid (zs ++ textL s = (zs ++ putL s.size) ++ strL s) := by show _ = _; unfold textL; rw [List.append_assoc]
  have HSL : Hid ((strL s).length = s.size) := strL_length s
  have hql : (zs ++ putL (s.size : Int)).length ≤ 1099511627 + 9 := by rw [List.length_append]; omega
  generalize zs ++ putL (s.size : Int) = qs at *
  go_enter Tryd.func50, Tryd.ntmps50
  go_wp2_with fail
  refine cp.mono ?_
  rintro e w1 ⟨v1, rfl, hM1, hb1⟩
  clear cp
  go_wp2_with (at_builtin; refine wpList_append_own_src _ rfl _ _ 80 9 rfl w.heap.size 5 i0 (.int .u8 0) 1 1 Tryd.underlying80 hi hz0 hz1 hz2 rfl _ qs.length _ rfl hM1.1 _ s.size _ rfl (str_src s _) ?e1 ?e2 ?e3 ?_)
  case e1 => unfold maxLen; omega
  case e2 => omega
  case e3 => exact hb1.size
  intro v5 w5 hown5 hgrow5
  have hb5 := below_grown hb1 hb1.size hM1.1 hgrow5
  have hM : Mine w5 w.heap.size v5 (zs ++ textL s) := by
    rw [HT.out]
    refine Mine.mk' _ hown5 ?_ ?_ (fun z hz => ?_)
    · simp only [List.length_append, HSL.out]
    · simp
    · simp only [List.mem_append] at hz
      rcases hz with hz | hz
      · exact hM1.2 z hz
      · exact strL_byte s z hz
  clear hown5 hgrow5
  go_wp2_with fail
  go_ret
  exact ⟨_, rfl, hM, hb5⟩
end Go.Proofs.YtogmkcabndgllaaDoor
