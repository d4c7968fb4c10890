/- The law WindowReads: its walk. -/
import Derived.Test.YtnjlamcpfclgaaaWB3
import Derived.Test.YtnjlamcpfclgaaaWBack
namespace Go.Proofs.Ytnjlamcpfclgaaa
open Go.RowKit
open Ty Ty.Tal
section
variable {P : Program} {ops : Array Oper} {Q : Exit → Act → World → Prop}
theorem hs_more {S S' : World → Prop} (h : ∀ w, S' w → S w) : ∀ (fuel : Nat) (listed : Array Bool) (a : Act) (w : World), HeldS P ops Q S' fuel listed a w → HeldS P ops Q S fuel listed a w
  | 0, _, _, _, k => k
  | fuel + 1, _, _, _, k => ⟨k.1, fun i hi => wpOp_mono (fun a' w' k' => ⟨h w' k'.1, hs_more h fuel _ a' w' k'.2⟩) (k.2 i hi)⟩
end
/-- what the last region keeps: the law's window; bytes that were laid; the error of the document's reader -/
def KS (w : World) (B m : Int) (rows : List (Option Addr)) (F : List Int) (q : List (Nat × Int)) (W : World) : Prop :=
  (W.rangeAt w.heap.size 0 (winC B m) ∧ Below w.heap.size w W ∧ w.heap.size < W.heap.size) ∧ (∀ a ∈ rows, RowAt W a F) ∧ (∀ x ∈ q, W.cell? ⟨x.1, 2, none⟩ = some (.int .i64 x.2))
theorem KS.on {w : World} {B m : Int} {rows : List (Option Addr)} {F : List Int} {q : List (Nat × Int)} {W W' : World} (h : KS w B m rows F q W) (hb : Below W.heap.size W W') : KS w B m rows F q W' :=
  ⟨⟨range_below h.1.1 hb h.1.2.2, h.1.2.1.trans (hb.mono h.1.2.1.size), Nat.lt_of_lt_of_le h.1.2.2 hb.size⟩, fun a ha => (h.2.1 a ha).below hb, fun x hx => (hb.cell (p := ⟨x.1, 2, none⟩) (block_lt (h.2.2 x hx))).trans (h.2.2 x hx)⟩
theorem KS.less {w : World} {B m : Int} {rows rows' : List (Option Addr)} {F : List Int} {q q' : List (Nat × Int)} {W : World} (h : KS w B m rows' F q' W) (hr : ∀ a ∈ rows, a ∈ rows') (hq : ∀ x ∈ q, x ∈ q') : KS w B m rows F q W :=
  ⟨h.1, fun a ha => h.2.1 a (hr a ha), fun x hx => h.2.2 x (hq x hx)⟩
theorem KS.gb {w : World} {B m : Int} {rows : List (Option Addr)} {F : List Int} {W W' : World} {R : Nat} (h : KS w B m rows F [] W) (hg : W.grownBy W' (some R)) (hR : w.heap.size < R) (hne : ∀ a ∈ rows, ∀ x, a = some x → x.block ≠ R) : KS w B m rows F [] W' :=
  ⟨⟨range_gb h.1.1 hg h.1.2.2 (by omega), gb_below' h.1.2.1 hg (by omega) (Nat.le_of_lt h.1.2.2), Nat.lt_of_lt_of_le h.1.2.2 hg.size⟩, fun a ha => (h.2.1 a ha).gb hg (hne a ha), fun x hx => absurd hx (by simp)⟩
theorem mine_lo {w : World} {D n cap : Nat} {a : Option Addr} {zs : List Int} (h : Mine w D (.slice a n cap) zs) : ∀ x, a = some x → D ≤ x.block := by
  intro x hx
  subst hx
  rcases h.1.2 with ⟨hv, _⟩ | ⟨g, cp, cur, hv, hg, _⟩
  · cases hv
  · injection hv with hv _ _
    injection hv with hv
    subst hv
    exact hg
set_option maxHeartbeats 8000000 in
theorem reads_walk (B : Int) (m : Nat) (hm : m < 2 ^ 64) (hBx : B ≤ 9223372036854775807) (a : Option Addr) (cap : Nat) (zs : List Int) (w : World) (h : RowAt w a zs) :
    Calls Try.prog 4 #[.slice a zs.length cap, winV B (m : Int)] w fun e w' => e = .returned (.bool true) ∧ Below w.heap.size w w' := by
  have hb0 := one_box (Below.refl (w.alloc (.cells #[.int .i64 B, .int .u64 (m : Int)] 24)).heap.size _)
  by_cases hlong : 2000 < zs.length
  · have hli : (2000 : Int) < zs.length := by omega
    go_enter Try.func4, Try.ntmps4
    go_wp2_with fail
    refine (lives_any _).mono ?_
    rintro e w1 ⟨rfl, hb1⟩
    obtain ⟨_, hB1, _⟩ := one_box hb1
    go_wp2_with fail
    go_ret
    exact ⟨rfl, hB1⟩
  · have hli : (zs.length : Int) ≤ 2000 := by omega
    have lW : (winL B m).length ≤ 27 := by
      have l1 := putL_length B (by omega)
      have l2 := putL_length ((m / 4294967296 : Nat) : Int) (by omega)
      have l3 := putL_length ((m % 4294967296 : Nat) : Int) (by omega)
      unfold winL
      rw [List.length_append, List.length_append]
      omega
    have cp := fun w0 h0 => wput_any a cap zs B m w0 h0 (by omega) hm hBx
    have cq := fun w0 h0 => refWPut_any a cap zs B m w0 h0 (by omega) hm hBx
    obtain ⟨F, hF⟩ : ∃ F, Hid (zs ++ winL B m = F) := ⟨_, rfl⟩
    have lF : F.length ≤ 2027 := by rw [← hF.out, List.length_append]; omega
    simp only [hF.out] at cp cq
    have cg := fun R w0 h0 => wget_any R zs 0 w0 h0
    have ch := fun D X w0 h0 => refWGet_any D X zs 0 w0 h0
    obtain ⟨G, hG⟩ : ∃ G, Hid (getR zs 0 = G) := ⟨_, rfl⟩
    simp only [hG.out] at cg ch
    obtain ⟨U, hU⟩ : ∃ U, Hid (getB G = U) := ⟨_, rfl⟩
    obtain ⟨V, hV⟩ : ∃ V, Hid (getM G = V) := ⟨_, rfl⟩
    obtain ⟨rest, hrs⟩ : ∃ x, Hid (G.rest = x) := ⟨_, rfl⟩
    obtain ⟨er, her⟩ : ∃ x, Hid (G.err = x) := ⟨_, rfl⟩
    simp only [hU.out, hV.out, hrs.out, her.out] at cg ch
    clear hF hG hU hV hrs her lW hm
    go_enter Try.func4, Try.ntmps4
    go_wp2_with fail
    obtain ⟨w0, hw0⟩ : ∃ w0, w.alloc (.cells #[.int .i64 B, .int .u64 (m : Int)] 24) = w0 := ⟨_, rfl⟩
    rw [hw0] at hb0 ⊢
    clear hw0
    obtain ⟨hA, hB0, hsz⟩ := hb0
    refine (read_any a cap zs w0 (h.below hB0) (by omega)).mono ?_
    rintro e w1 ⟨R, rfl, hR, sR, hb1⟩
    have hA1 := range_below hA hb1 hsz
    have hB1 := hB0.trans (hb1.mono hB0.size)
    have hs1 : w.heap.size < w1.heap.size := by have := hb1.size; omega
    have hR1 := sR.1.1
    go_wp2_with fail
    refine (refRead_any a cap zs w1 (h.below hB1) (by omega)).mono ?_
    rintro e w2 ⟨X, rfl, hX, sX, hb2⟩
    have hA2 := range_below hA1 hb2 hs1
    have hB2 := hB1.trans (hb2.mono hB1.size)
    have hs2 : w.heap.size < w2.heap.size := by have := hb2.size; omega
    have sR2 := sR.below hb2
    have hXl := RSt.lt sX
    have hwR : w.heap.size < R := by omega
    have hRX : R < X := by omega
    obtain ⟨D, hD⟩ : ∃ D, w1.heap.size = D := ⟨_, rfl⟩
    rw [hD] at sX hR1 hX
    clear hD sR hA hB0 hb1 hA1 hB1 hb2 hs1 hR hsz
    go_wp2_with fail
    obtain ⟨w8, hw8⟩ : ∃ w8, w2.drew = w8 := ⟨_, rfl⟩
    refine hs_begin (S := (KS w B (m : Int) [] F [])) 36 rfl (by kernel_rfl) ?_
    have hS : (KS w B (m : Int) [] F []) w8 := by rw [← hw8]; exact ⟨⟨hA2, hB2.drew, hs2⟩, by simp, by simp⟩
    have sR8 : St w8 R zs 0 := by rw [← hw8]; exact sR2.below (Below.refl _ _).drew
    have sX8 : RSt D w8 X zs 0 := by rw [← hw8]; exact sX.below (Below.refl _ _).drew
    have hX8 : X < w8.heap.size := by rw [← hw8]; exact hXl
    rw [hw8]
    clear hw8 hA2 hB2 hs2 sR2 sX hXl
    refine hs_take (i := 0) (d := some 15) (v := ?_) rfl (by kernel_rfl) (by kernel_rfl) (by kernel_rfl) (by rfl) ?_ hS rfl ?_
    rotate_left
    · intro w' hw
      go_simp
      try with_reducible rfl
    simp only [Act.put, List.setIfInBounds_toArray, List.set_cons_zero, List.set_cons_succ]
    refine hs_take (i := 1) (d := some 16) (v := winV B (m : Int)) rfl (by kernel_rfl) (by kernel_rfl) (by kernel_rfl) (by rfl) (fun w' hw => exec_load rfl rfl (win_load hw.1.1)) hS rfl ?_
    simp only [Act.put, List.setIfInBounds_toArray, List.set_cons_zero, List.set_cons_succ]
    refine hs_take (i := 4) (d := some 19) (v := ?_) rfl (by kernel_rfl) (by kernel_rfl) (by kernel_rfl) (by rfl) ?_ hS rfl ?_
    rotate_left
    · intro w' hw
      go_simp
      try with_reducible rfl
    simp only [Act.put, List.setIfInBounds_toArray, List.set_cons_zero, List.set_cons_succ]
    refine hs_take (i := 5) (d := some 20) (v := winV B (m : Int)) rfl (by kernel_rfl) (by kernel_rfl) (by kernel_rfl) (by rfl) (fun w' hw => exec_load rfl rfl (win_load hw.1.1)) hS rfl ?_
    simp only [Act.put, List.setIfInBounds_toArray, List.set_cons_zero, List.set_cons_succ]
    refine hs_call (i := 2) (d := some 17) rfl (by kernel_rfl) (by rfl) (by go_simp; first | done | exact ⟨rfl, rfl⟩ | with_reducible rfl) rfl ?_
    refine (cp w8 (h.below hS.1.2.1)).mono ?_
    rintro e' w9 ⟨v9, rfl, m9, b9⟩
    have hS : (KS w B (m : Int) [] F []) w9 := hS.on b9
    refine ⟨_, rfl, hS, ?_⟩
    simp only [Act.put, List.setIfInBounds_toArray, List.set_cons_zero, List.set_cons_succ]
    have lo9 := fun a cap (hv : v9 = .slice a F.length cap) => mine_lo (hv ▸ m9)
    obtain ⟨a9, cap9, rfl, _, _, row9⟩ := m9.rowAt (by unfold maxLen; omega)
    have lo9 := lo9 a9 cap9 rfl
    have sR9 := sR8.below b9
    have sX9 := sX8.below b9
    have hX9 : X < w9.heap.size := by have := b9.size; omega
    have hlo9 : ∀ x, a9 = some x → X < x.block := fun x hx => by have := lo9 x hx; omega
    clear cp m9 lo9 sR8 sX8 b9
    have hS : (KS w B (m : Int) [a9] F []) w9 := ⟨hS.1, by intro a ha; rw [List.mem_singleton.1 ha]; exact row9, by simp⟩
    refine hs_more (S' := (KS w B (m : Int) [a9] F [])) (fun _ hh => KS.less hh (by simp) (by simp)) _ _ _ _ ?_
    clear row9
    refine hs_take (i := 3) (d := some 18) (v := .string (strOf F)) rfl (by kernel_rfl) (by kernel_rfl) (by kernel_rfl) (by rfl) (fun w' hw => by have z1 := (hw.2.1 a9 (by simp)).str cap9; go_simp) hS rfl ?_
    simp only [Act.put, List.setIfInBounds_toArray, List.set_cons_zero, List.set_cons_succ]
    refine hs_call (i := 6) (d := some 21) rfl (by kernel_rfl) (by rfl) (by go_simp; first | done | exact ⟨rfl, rfl⟩ | with_reducible rfl) rfl ?_
    refine (cq w9 (h.below hS.1.2.1)).mono ?_
    rintro e' w10 ⟨v10, rfl, m10, b10⟩
    have hS : (KS w B (m : Int) [a9] F []) w10 := hS.on b10
    refine ⟨_, rfl, hS, ?_⟩
    simp only [Act.put, List.setIfInBounds_toArray, List.set_cons_zero, List.set_cons_succ]
    have lo10 := fun a cap (hv : v10 = .slice a F.length cap) => mine_lo (hv ▸ m10)
    obtain ⟨a10, cap10, rfl, _, _, row10⟩ := m10.rowAt (by unfold maxLen; omega)
    have lo10 := lo10 a10 cap10 rfl
    have sR10 := sR9.below b10
    have sX10 := sX9.below b10
    have hX10 : X < w10.heap.size := by have := b10.size; omega
    have hlo10 : ∀ x, a10 = some x → X < x.block := fun x hx => by have := lo10 x hx; omega
    clear cq m10 lo10 sR9 sX9 b10
    have hS : (KS w B (m : Int) [a9, a10] F []) w10 := ⟨hS.1, by intro a ha; rcases List.mem_cons.1 ha with rfl | ha; exact hS.2.1 _ (by simp); rw [List.mem_singleton.1 ha]; exact row10, by simp⟩
    refine hs_more (S' := (KS w B (m : Int) [a9, a10] F [])) (fun _ hh => KS.less hh (by simp) (by simp)) _ _ _ _ ?_
    clear row10
    have hneR : ∀ a ∈ [a9, a10], ∀ x, a = some x → x.block ≠ R := by
      intro a ha x hx
      rcases List.mem_cons.1 ha with rfl | ha
      · have := hlo9 x hx; omega
      · rw [List.mem_singleton.1 ha] at hx; have := hlo10 x hx; omega
    have hneX : ∀ a ∈ [a9, a10], ∀ x, a = some x → x.block ≠ X := by
      intro a ha x hx
      rcases List.mem_cons.1 ha with rfl | ha
      · have := hlo9 x hx; omega
      · rw [List.mem_singleton.1 ha] at hx; have := hlo10 x hx; omega
    refine hs_take (i := 7) (d := some 22) (v := .string (strOf F)) rfl (by kernel_rfl) (by kernel_rfl) (by kernel_rfl) (by rfl) (fun w' hw => by have z1 := (hw.2.1 a10 (by simp)).str cap10; go_simp) hS rfl ?_
    simp only [Act.put, List.setIfInBounds_toArray, List.set_cons_zero, List.set_cons_succ]
    refine hs_take (i := 8) (d := some 23) (v := .bool true) rfl (by kernel_rfl) (by kernel_rfl) (by kernel_rfl) (by rfl) (fun w' hw => by go_simp; first | done | simp) hS rfl ?_
    simp only [Act.put, List.setIfInBounds_toArray, List.set_cons_zero, List.set_cons_succ]
    refine hs_take (i := 9) (d := some 24) (v := ?_) rfl (by kernel_rfl) (by kernel_rfl) (by kernel_rfl) (by rfl) ?_ hS rfl ?_
    rotate_left
    · intro w' hw
      go_simp
      try with_reducible rfl
    simp only [Act.put, List.setIfInBounds_toArray, List.set_cons_zero, List.set_cons_succ]
    refine hs_take (i := 10) (d := some 25) (v := ?_) rfl (by kernel_rfl) (by kernel_rfl) (by kernel_rfl) (by rfl) ?_ hS rfl ?_
    rotate_left
    · intro w' hw
      go_simp
      try with_reducible rfl
    simp only [Act.put, List.setIfInBounds_toArray, List.set_cons_zero, List.set_cons_succ]
    refine hs_take (i := 12) (d := some 27) (v := ?_) rfl (by kernel_rfl) (by kernel_rfl) (by kernel_rfl) (by rfl) ?_ hS rfl ?_
    rotate_left
    · intro w' hw
      go_simp
      try with_reducible rfl
    simp only [Act.put, List.setIfInBounds_toArray, List.set_cons_zero, List.set_cons_succ]
    refine hs_call (i := 11) (d := some 26) rfl (by kernel_rfl) (by rfl) (by go_simp; first | done | exact ⟨rfl, rfl⟩ | with_reducible rfl) rfl ?_
    refine (cg R w10 sR10).mono ?_
    rintro e' w11 ⟨rfl, sR11, g11⟩
    have hS : (KS w B (m : Int) [a9, a10] F []) w11 := hS.gb g11 hwR hneR
    refine ⟨_, rfl, hS, ?_⟩
    simp only [Act.put, List.setIfInBounds_toArray, List.set_cons_zero, List.set_cons_succ]
    have sX11 := sX10.gb g11 (.inl ⟨by omega, by omega⟩)
    clear cg sR10 sX10
    refine hs_call (i := 13) (d := some 28) rfl (by kernel_rfl) (by rfl) (by go_simp; first | done | exact ⟨rfl, rfl⟩ | with_reducible rfl) rfl ?_
    refine (ch D X w11 sX11).mono ?_
    rintro e' w12 ⟨rfl, sX12, g12⟩
    have hS : (KS w B (m : Int) [a9, a10] F []) w12 := hS.gb g12 (by omega) hneX
    refine ⟨_, rfl, hS, ?_⟩
    simp only [Act.put, List.setIfInBounds_toArray, List.set_cons_zero, List.set_cons_succ]
    have sR12 := sR11.gb g12 hRX
    have x2 := RSt.cell2 sX12
    clear ch sR11 sX11 g11 g12
    have hS : (KS w B (m : Int) [a9, a10] F [(X, er)]) w12 := ⟨hS.1, hS.2.1, by intro x hx; rw [List.mem_singleton.1 hx]; exact x2⟩
    refine hs_more (S' := (KS w B (m : Int) [a9, a10] F [(X, er)])) (fun _ hh => KS.less hh (by simp) (by simp)) _ _ _ _ ?_
    clear x2
    have ce := err_made R er w12 sR12.1
    have cl := leftR_any R rest er w12 sR12
    have cm := refLeft_any X rest er w12 sX12
    obtain ⟨lv, hlv⟩ : ∃ lv, Hid ((if er = 0 then (rest.length : Int) else 0) = lv) := ⟨_, rfl⟩
    rw [hlv.out] at cl cm
    clear hlv
    refine hs_take (i := 14) (d := some 29) (v := .bool true) rfl (by kernel_rfl) (by kernel_rfl) (by kernel_rfl) (by rfl) (fun w' hw => by go_simp; first | done | simp) hS rfl ?_
    simp only [Act.put, List.setIfInBounds_toArray, List.set_cons_zero, List.set_cons_succ]
    refine hs_take (i := 15) (d := some 30) (v := ?_) rfl (by kernel_rfl) (by kernel_rfl) (by kernel_rfl) (by rfl) ?_ hS rfl ?_
    rotate_left
    · intro w' hw
      go_simp
      try with_reducible rfl
    simp only [Act.put, List.setIfInBounds_toArray, List.set_cons_zero, List.set_cons_succ]
    refine hs_take (i := 16) (d := some 31) (v := ?_) rfl (by kernel_rfl) (by kernel_rfl) (by kernel_rfl) (by rfl) ?_ hS rfl ?_
    rotate_left
    · intro w' hw
      go_simp
      try with_reducible rfl
    simp only [Act.put, List.setIfInBounds_toArray, List.set_cons_zero, List.set_cons_succ]
    refine hs_take (i := 17) (d := some 32) (v := ?_) rfl (by kernel_rfl) (by kernel_rfl) (by kernel_rfl) (by rfl) ?_ hS rfl ?_
    rotate_left
    · intro w' hw
      go_simp
      try with_reducible rfl
    simp only [Act.put, List.setIfInBounds_toArray, List.set_cons_zero, List.set_cons_succ]
    refine hs_take (i := 19) (d := some 34) (v := ?_) rfl (by kernel_rfl) (by kernel_rfl) (by kernel_rfl) (by rfl) ?_ hS rfl ?_
    rotate_left
    · intro w' hw
      go_simp
      try with_reducible rfl
    simp only [Act.put, List.setIfInBounds_toArray, List.set_cons_zero, List.set_cons_succ]
    refine hs_take (i := 20) (d := some 35) (v := ?_) rfl (by kernel_rfl) (by kernel_rfl) (by kernel_rfl) (by rfl) ?_ hS rfl ?_
    rotate_left
    · intro w' hw
      go_simp
      try with_reducible rfl
    simp only [Act.put, List.setIfInBounds_toArray, List.set_cons_zero, List.set_cons_succ]
    refine hs_take (i := 21) (d := some 36) (v := ?_) rfl (by kernel_rfl) (by kernel_rfl) (by kernel_rfl) (by rfl) ?_ hS rfl ?_
    rotate_left
    · intro w' hw
      go_simp
      try with_reducible rfl
    simp only [Act.put, List.setIfInBounds_toArray, List.set_cons_zero, List.set_cons_succ]
    refine hs_take (i := 22) (d := some 37) (v := .int .i64 er) rfl (by kernel_rfl) (by kernel_rfl) (by kernel_rfl) (by rfl) (fun w' hw => by have z1 : w'.cell? ⟨X, 2, none⟩ = some (.int .i64 er) := hw.2.2 (X, er) (by simp); go_simp) hS rfl ?_
    simp only [Act.put, List.setIfInBounds_toArray, List.set_cons_zero, List.set_cons_succ]
    refine hs_call (i := 18) (d := some 33) rfl (by kernel_rfl) (by rfl) (by go_simp; first | done | exact ⟨rfl, rfl⟩ | with_reducible rfl) rfl ?_
    refine (ce).mono ?_
    rintro e' w13 ⟨rfl, hx⟩
    have hS : (KS w B (m : Int) [a9, a10] F [(X, er)]) w13 := by rw [hx]; exact hS
    refine ⟨_, rfl, hS, ?_⟩
    simp only [Act.put, List.setIfInBounds_toArray, List.set_cons_zero, List.set_cons_succ]
    obtain rfl := hx.symm
    clear ce
    refine hs_take (i := 23) (d := some 38) (v := .bool true) rfl (by kernel_rfl) (by kernel_rfl) (by kernel_rfl) (by rfl) (fun w' hw => by go_simp; first | done | simp) hS rfl ?_
    simp only [Act.put, List.setIfInBounds_toArray, List.set_cons_zero, List.set_cons_succ]
    refine hs_take (i := 24) (d := some 39) (v := ?_) rfl (by kernel_rfl) (by kernel_rfl) (by kernel_rfl) (by rfl) ?_ hS rfl ?_
    rotate_left
    · intro w' hw
      go_simp
      try with_reducible rfl
    simp only [Act.put, List.setIfInBounds_toArray, List.set_cons_zero, List.set_cons_succ]
    refine hs_take (i := 25) (d := some 40) (v := ?_) rfl (by kernel_rfl) (by kernel_rfl) (by kernel_rfl) (by rfl) ?_ hS rfl ?_
    rotate_left
    · intro w' hw
      go_simp
      try with_reducible rfl
    simp only [Act.put, List.setIfInBounds_toArray, List.set_cons_zero, List.set_cons_succ]
    refine hs_take (i := 26) (d := some 41) (v := ?_) rfl (by kernel_rfl) (by kernel_rfl) (by kernel_rfl) (by rfl) ?_ hS rfl ?_
    rotate_left
    · intro w' hw
      go_simp
      try with_reducible rfl
    simp only [Act.put, List.setIfInBounds_toArray, List.set_cons_zero, List.set_cons_succ]
    refine hs_take (i := 28) (d := some 43) (v := ?_) rfl (by kernel_rfl) (by kernel_rfl) (by kernel_rfl) (by rfl) ?_ hS rfl ?_
    rotate_left
    · intro w' hw
      go_simp
      try with_reducible rfl
    simp only [Act.put, List.setIfInBounds_toArray, List.set_cons_zero, List.set_cons_succ]
    refine hs_call (i := 27) (d := some 42) rfl (by kernel_rfl) (by rfl) (by go_simp; first | done | exact ⟨rfl, rfl⟩ | with_reducible rfl) rfl ?_
    refine (cl).mono ?_
    rintro e' w13 ⟨rfl, hx⟩
    have hS : (KS w B (m : Int) [a9, a10] F [(X, er)]) w13 := by rw [hx]; exact hS
    refine ⟨_, rfl, hS, ?_⟩
    simp only [Act.put, List.setIfInBounds_toArray, List.set_cons_zero, List.set_cons_succ]
    obtain rfl := hx.symm
    clear cl
    refine hs_call (i := 29) (d := some 44) rfl (by kernel_rfl) (by rfl) (by go_simp; first | done | exact ⟨rfl, rfl⟩ | with_reducible rfl) rfl ?_
    refine (cm).mono ?_
    rintro e' w13 ⟨rfl, hx⟩
    have hS : (KS w B (m : Int) [a9, a10] F [(X, er)]) w13 := by obtain ⟨k, rfl⟩ := hx; exact hS.on (below_drewN (Below.refl _ _) k)
    refine ⟨_, rfl, hS, ?_⟩
    simp only [Act.put, List.setIfInBounds_toArray, List.set_cons_zero, List.set_cons_succ]
    clear cm
    refine hs_take (i := 30) (d := some 45) (v := .bool true) rfl (by kernel_rfl) (by kernel_rfl) (by kernel_rfl) (by rfl) (fun w' hw => by go_simp; first | done | simp) hS rfl ?_
    simp only [Act.put, List.setIfInBounds_toArray, List.set_cons_zero, List.set_cons_succ]
    refine hs_take (i := 31) (d := some 46) (v := ?_) rfl (by kernel_rfl) (by kernel_rfl) (by kernel_rfl) (by rfl) ?_ hS rfl ?_
    rotate_left
    · intro w' hw
      go_simp
      try with_reducible rfl
    simp only [Act.put, List.setIfInBounds_toArray, List.set_cons_zero, List.set_cons_succ]
    refine hs_take (i := 32) (d := some 47) (v := ?_) rfl (by kernel_rfl) (by kernel_rfl) (by kernel_rfl) (by rfl) ?_ hS rfl ?_
    rotate_left
    · intro w' hw
      go_simp
      try with_reducible rfl
    simp only [Act.put, List.setIfInBounds_toArray, List.set_cons_zero, List.set_cons_succ]
    refine hs_call (i := 33) (d := some 48) rfl (by kernel_rfl) (by rfl) (by go_simp; first | done | exact ⟨rfl, rfl⟩ | with_reducible rfl) rfl ?_
    refine (lives_any _).mono ?_
    rintro e' w14 ⟨rfl, hx⟩
    have hS : (KS w B (m : Int) [a9, a10] F [(X, er)]) w14 := hS.on hx
    refine ⟨_, rfl, hS, ?_⟩
    simp only [Act.put, List.setIfInBounds_toArray, List.set_cons_zero, List.set_cons_succ]
    refine hs_take (i := 34) (d := some 49) (v := ?_) rfl (by kernel_rfl) (by kernel_rfl) (by kernel_rfl) (by rfl) ?_ hS rfl ?_
    rotate_left
    · intro w' hw
      go_simp
      try with_reducible rfl
    simp only [Act.put, List.setIfInBounds_toArray, List.set_cons_zero, List.set_cons_succ]
    refine hs_take (i := 35) (d := some 4) (v := ?_) rfl (by kernel_rfl) (by kernel_rfl) (by kernel_rfl) (by rfl) ?_ hS rfl ?_
    rotate_left
    · intro w' hw
      go_simp
      try with_reducible rfl
    simp only [Act.put, List.setIfInBounds_toArray, List.set_cons_zero, List.set_cons_succ]
    refine hs_done (by kernel_rfl) ?_
    go_wp2_with fail
    go_ret
    exact ⟨rfl, hS.1.2.1⟩
end Go.Proofs.Ytnjlamcpfclgaaa
