/- window.Get: its contract; windows as bytes. -/
import Derived.Test.YtnjlamcpfclgaaaTyTwo
import Derived.Test.YtnjlamcpfclgaaaWA5
import Derived.Test.YtnjlamcpfclgaaaWOrd
namespace Go.Proofs.Ytnjlamcpfclgaaa
open Go.RowKit
open Ty Ty.Tal
def winL (B : Int) (m : Nat) : List Int := putL B ++ putL ((m / 4294967296 : Nat) : Int) ++ putL ((m % 4294967296 : Nat) : Int)
structure Got where
  base : Int
  high : Nat
  low : Nat
  rest : List Int
  err : Int
theorem numS_le (rest : List Int) (e most : Int) (h : 0 ≤ most) : (numS rest e most).1 ≤ most := by
  unfold numS
  split
  · split
    · split
      · exact h
      · show (numR rest).1 ≤ most; omega
    · exact h
  · exact h
def ByteL (e : Int) (rest : List Int) : Prop := e = 0 → ∀ z ∈ rest, 0 ≤ z ∧ z < 256
theorem numS_pos {rest : List Int} {e : Int} (most : Int) (hz : ByteL e rest) : 0 ≤ (numS rest e most).1 := by
  unfold numS
  split
  · rename_i he
    split
    · split
      · exact Int.le_refl _
      · exact numR_nonneg rest (hz he)
    · exact Int.le_refl _
  · exact Int.le_refl _
theorem numS_bytes {rest : List Int} {e : Int} (most : Int) (hz : ByteL e rest) : ByteL (numS rest e most).2.2 (numS rest e most).2.1 := by
  unfold numS
  split
  · rename_i he
    split
    · split
      · exact fun _ => hz he
      · exact fun _ z hm => hz he z (List.mem_of_mem_drop hm)
    · exact fun _ => hz he
  · rename_i he
    exact fun h => absurd h he
theorem numS_more (rest : List Int) (e most : Int) : (numS rest e most).2.2 = 0 → e = 0 := by
  unfold numS
  split
  · rename_i he; exact fun _ => he
  · rename_i he; exact fun h => absurd h he
theorem St.bytes {w : World} {R : Nat} {rest : List Int} {e : Int} (h : St w R rest e) : ByteL e rest := by
  intro he
  obtain ⟨a, cap, _, _, _, hrow, _⟩ := h.2 he
  exact hrow.2.1
theorem or_hl (hi lo : Nat) (h : lo < 4294967296) (h2 : hi < 4294967296) : bits BinOp.or IntKind.u64 ((hi : Int) * 4294967296) (lo : Int) = ((hi * 4294967296 + lo : Nat) : Int) := by
  have e : ((hi : Int) * 4294967296) = ((hi * 4294967296 : Nat) : Int) := by omega
  rw [e, or_nat _ _ (by omega) (by omega)]
  congr 1
  have := Nat.two_pow_add_eq_or_of_lt (i := 32) (b := lo) (by omega) hi
  rw [show hi * 4294967296 = 2 ^ 32 * hi by omega, ← this]
/-- what Get tells, and where the reader stands behind it -/
def getR (rest : List Int) (e : Int) : Got :=
  ⟨(numS rest e 1099511627777).1,
   (numS (numS rest e 1099511627777).2.1 (numS rest e 1099511627777).2.2 4294967295).1.toNat,
   (numS (numS (numS rest e 1099511627777).2.1 (numS rest e 1099511627777).2.2 4294967295).2.1 (numS (numS rest e 1099511627777).2.1 (numS rest e 1099511627777).2.2 4294967295).2.2 4294967295).1.toNat,
   (numS (numS (numS rest e 1099511627777).2.1 (numS rest e 1099511627777).2.2 4294967295).2.1 (numS (numS rest e 1099511627777).2.1 (numS rest e 1099511627777).2.2 4294967295).2.2 4294967295).2.1,
   (numS (numS (numS rest e 1099511627777).2.1 (numS rest e 1099511627777).2.2 4294967295).2.1 (numS (numS rest e 1099511627777).2.1 (numS rest e 1099511627777).2.2 4294967295).2.2 4294967295).2.2⟩
def getOk (g : Got) : Bool := decide (g.err = 0) && goodW g.base (g.high * 4294967296 + g.low)
def getB (g : Got) : Int := if getOk g then g.base else 0
def getM (g : Got) : Nat := if getOk g then g.high * 4294967296 + g.low else 0
theorem there_gb {w w' : World} {R b n : Nat} (h : w.there b 0 n) (hg : w.grownBy w' (some R)) (hb : b < w.heap.size) (hne : b ≠ R) : w'.there b 0 n := fun j hj => by
  have hk := @cell_block w w' b (0 + j) (hg.block b hb (by intro q; injection q with q; exact hne q))
  exact ⟨by rw [hk.1]; exact (h j hj).1, by rw [hk.2]; exact (h j hj).2⟩
theorem gb_on {w W W' : World} {R B : Nat} (h : w.grownBy W (some R)) (hb : Below B W W') (hB : w.heap.size ≤ B) : w.grownBy W' (some R) :=
  ⟨hb.os.trans h.os, hb.tape.trans h.tape, hb.output.trans h.output, Nat.le_trans h.size hb.size, fun i hi hr => (hb.block i (by omega)).trans (h.block i hi hr)⟩
theorem St.on {w W W' : World} {R B : Nat} {rest : List Int} {e : Int} (h : St W R rest e) (hg : W.grownBy W' (some B)) (hR : R < B) (_ : w.heap.size ≤ B) : St W' R rest e := h.gb hg hR
theorem gb_sets (W : World) (b : Nat) : ∀ (vs : List Value) (o : Nat), W.grownBy (W.setCells b o vs) (some b) := by
  intro vs
  induction vs generalizing W with
  | nil => intro o; exact gb_refl _ _
  | cons v vs ih => intro o; exact gb_trans (gb_set W b o v) (ih _ (o + 1))
set_option maxHeartbeats 2000000 in
theorem wget_any (R : Nat) (rest : List Int) (e : Int) (w : World) (h : St w R rest e) :
    Calls Try.prog 24 #[.pointer (some ⟨R, 0, none⟩)] w fun en w' => en = .returned (winV (getB (getR rest e)) (getM (getR rest e) : Int)) ∧ St w' R (getR rest e).rest (getR rest e).err ∧ w.grownBy w' (some R) := by
  have hRw := h.1.1
  have hz := St.bytes h
  have p1 := numS_pos 1099511627777 hz
  have u1 := numS_le rest e 1099511627777 (by decide)
  have hz1 := numS_bytes 1099511627777 hz
  have bA : Below w.heap.size w (w.alloc (.cells #[.int .i64 0, .int .u64 0] 24)) := (Below.refl _ _).alloc (Nat.le_refl _) _
  have tA := there_new w #[.int .i64 0, .int .u64 0] 24
  have sA : (w.alloc (.cells #[.int .i64 0, .int .u64 0] 24)).heap.size = w.heap.size + 1 := World.size_alloc _ _
  have c1 := num_any R rest e 1099511627777 _ (h.below bA)
  have g0 := gb_below bA (some R)
  obtain ⟨G, hG⟩ : ∃ G, Hid (getR rest e = G) := ⟨_, rfl⟩
  have G1 : Hid (G.base = (numS rest e 1099511627777).1) := hide (by rw [← hG.out]; rfl)
  have G2 : Hid (G.high = (numS (numS rest e 1099511627777).2.1 (numS rest e 1099511627777).2.2 4294967295).1.toNat) := hide (by rw [← hG.out]; rfl)
  have G3 : Hid (G.low = (numS (numS (numS rest e 1099511627777).2.1 (numS rest e 1099511627777).2.2 4294967295).2.1 (numS (numS rest e 1099511627777).2.1 (numS rest e 1099511627777).2.2 4294967295).2.2 4294967295).1.toNat) := hide (by rw [← hG.out]; rfl)
  have G4 : Hid (G.rest = (numS (numS (numS rest e 1099511627777).2.1 (numS rest e 1099511627777).2.2 4294967295).2.1 (numS (numS rest e 1099511627777).2.1 (numS rest e 1099511627777).2.2 4294967295).2.2 4294967295).2.1) := hide (by rw [← hG.out]; rfl)
  have G5 : Hid (G.err = (numS (numS (numS rest e 1099511627777).2.1 (numS rest e 1099511627777).2.2 4294967295).2.1 (numS (numS rest e 1099511627777).2.1 (numS rest e 1099511627777).2.2 4294967295).2.2 4294967295).2.2) := hide (by rw [← hG.out]; rfl)
  rw [hG.out]
  clear hG
  obtain ⟨b0, hb0⟩ : ∃ x, Hid ((numS rest e 1099511627777).1 = x) := ⟨_, rfl⟩
  obtain ⟨r1, hr1⟩ : ∃ x, Hid ((numS rest e 1099511627777).2.1 = x) := ⟨_, rfl⟩
  obtain ⟨e1, he1⟩ : ∃ x, Hid ((numS rest e 1099511627777).2.2 = x) := ⟨_, rfl⟩
  rw [hb0.out] at p1 u1 G1
  rw [hr1.out, he1.out] at hz1 G2 G3 G4 G5
  rw [hb0.out, hr1.out, he1.out] at c1
  have p2 := numS_pos 4294967295 hz1
  have u2 := numS_le r1 e1 4294967295 (by decide)
  have hz2 := numS_bytes 4294967295 hz1
  obtain ⟨b1, hb1⟩ : ∃ x, Hid ((numS r1 e1 4294967295).1 = x) := ⟨_, rfl⟩
  obtain ⟨r2, hr2⟩ : ∃ x, Hid ((numS r1 e1 4294967295).2.1 = x) := ⟨_, rfl⟩
  obtain ⟨e2, he2⟩ : ∃ x, Hid ((numS r1 e1 4294967295).2.2 = x) := ⟨_, rfl⟩
  rw [hb1.out] at p2 u2 G2
  rw [hr2.out, he2.out] at hz2 G3 G4 G5
  have p3 := numS_pos 4294967295 hz2
  have u3 := numS_le r2 e2 4294967295 (by decide)
  obtain ⟨b2, hb2⟩ : ∃ x, Hid ((numS r2 e2 4294967295).1 = x) := ⟨_, rfl⟩
  obtain ⟨r3, hr3⟩ : ∃ x, Hid ((numS r2 e2 4294967295).2.1 = x) := ⟨_, rfl⟩
  obtain ⟨e3, he3⟩ : ∃ x, Hid ((numS r2 e2 4294967295).2.2 = x) := ⟨_, rfl⟩
  rw [hb2.out] at p3 u3 G3
  rw [hr3.out] at G4
  rw [he3.out] at G5
  clear hz hz1 hz2 h
  go_enter Try.func24, Try.ntmps24
  go_wp2_with fail
  obtain ⟨w0, hw0⟩ : ∃ w0, w.alloc (.cells #[.int .i64 0, .int .u64 0] 24) = w0 := ⟨_, rfl⟩
  rw [hw0] at c1 g0 tA sA
  rw [hw0]
  clear hw0 bA
  refine c1.mono ?_
  rintro en w1 ⟨rfl, s1, g1⟩
  have t1 := there_gb tA g1 (by omega) (by omega)
  have z1 := g1.size
  have gg1 := gb_trans g0 g1
  have c2 := num_any R r1 e1 4294967295 w1 s1
  rw [hb1.out, hr2.out, he2.out] at c2
  clear c1 g1 g0 tA
  go_wp2_with fail
  refine c2.mono ?_
  rintro en w2 ⟨rfl, s2, g2⟩
  have t2 := there_gb t1 g2 (by omega) (by omega)
  have z2 := g2.size
  have gg2 := gb_trans gg1 g2
  have c3 := num_any R r2 e2 4294967295 w2 s2
  rw [hb2.out, hr3.out, he3.out] at c3
  clear c2 g2 gg1 t1 s1
  go_wp2_with fail
  refine c3.mono ?_
  rintro en w3 ⟨rfl, s3, g3⟩
  have t3 := there_gb t2 g3 (by omega) (by omega)
  have z3 := g3.size
  have gg3 := gb_trans gg2 g3
  clear c3 g3 gg2 t2 s2
  obtain ⟨hi, rfl⟩ := Int.eq_ofNat_of_zero_le p2
  obtain ⟨lo, rfl⟩ := Int.eq_ofNat_of_zero_le p3
  have hor := or_hl hi lo (by omega) (by omega)
  have uh : IntKind.u64.wrap (hi : Int) = (hi : Int) := by rw [IntKind.wrap_u64]; omega
  have ul : IntKind.u64.wrap (lo : Int) = (lo : Int) := by rw [IntKind.wrap_u64]; omega
  have us : IntKind.u64.wrap ((hi : Int) * 4294967296) = (hi : Int) * 4294967296 := by rw [IntKind.wrap_u64]; omega
  -- END
  go_wp2_with fail
  obtain ⟨M, hM⟩ : ∃ M : Nat, Hid (M = hi * 4294967296 + lo) := ⟨_, rfl⟩
  have hMi : (hi : Int) * 4294967296 + (lo : Int) = (M : Int) := by rw [hM.out]; omega
  have hMlt : M < 2 ^ 64 := by rw [hM.out]; omega
  rw [hMi]
  have hok : Hid (getOk G = (decide (e3 = 0) && goodW b0 M)) := hide (by unfold getOk; rw [G1.out, G2.out, G3.out, G5.out, hM.out]; rfl)
  have hbs : Hid (getB G = if getOk G then b0 else 0) := hide (by unfold getB; rw [G1.out])
  have hms : Hid (getM G = if getOk G then M else 0) := hide (by unfold getM; rw [G2.out, G3.out, hM.out]; rfl)
  clear hor uh ul us hMi hM G1 G2 G3 p2 p3 u2 u3
  have b4 : Below w3.heap.size w3 (w3.alloc (.cells #[.int .i64 b0, .int .u64 (M : Int)] 24)) := (Below.refl _ _).alloc (Nat.le_refl _) _
  have s4 := s3.below b4
  have t4 := there_below t3 b4 (by omega)
  have gg4 := gb_on gg3 b4 (by omega)
  have v4 := range_new w3 #[.int .i64 b0, .int .u64 (M : Int)] 24
  have z4 : (w3.alloc (.cells #[.int .i64 b0, .int .u64 (M : Int)] 24)).heap.size = w3.heap.size + 1 := World.size_alloc _ _
  obtain ⟨P, hP⟩ : ∃ P, w3.heap.size = P := ⟨_, rfl⟩
  obtain ⟨w4, hw4⟩ : ∃ w4, w3.alloc (.cells #[.int .i64 b0, .int .u64 (M : Int)] 24) = w4 := ⟨_, rfl⟩
  rw [hw4] at s4 t4 gg4
  rw [hw4, hP] at v4 z4
  rw [hP] at z3
  rw [hw4, hP]
  clear s3 t3 gg3 b4 hP hw4
  have ce := err_made R e3 w4 s4.1
  by_cases he : e3 = 0
  · subst he
    have cg := good_any b0 M hMlt w4
    refine ce.mono ?_
    rintro en wx ⟨rfl, hx⟩
    obtain rfl := hx.symm
    clear hx ce
    have q0 : w4.cell? ⟨P, 0, none⟩ = some (.int .i64 b0) := v4 0 _ rfl
    have q1 : w4.cell? ⟨P, 1, none⟩ = some (.int .u64 (M : Int)) := v4 1 _ rfl
    cases hg : goodW b0 M with
    | false =>
      have EB : Hid (getB G = 0) := hide (by rw [hbs.out, hok.out, hg]; rfl)
      have EM : Hid (getM G = 0) := hide (by rw [hms.out, hok.out, hg]; rfl)
      rw [hg] at cg
      clear hok hbs hms hg
      go_wp2_with fail
      refine cg.mono ?_
      rintro en w5 ⟨rfl, b5⟩
      have t5 := there_below t4 b5 (by omega)
      have s5 := s4.below b5
      have gg5 := gb_on gg4 b5 (by omega)
      clear cg q0 q1 t4 s4 gg4 v4
      have hrs := win_load (win_set (B := 0) (m := 0) t5)
      have gf := gb_on gg5 (below_sets (B := w.heap.size) (b := w.heap.size) (Nat.le_refl _) (winC 0 0) 0 _ (Below.refl _ w5)) (Nat.le_refl _)
      have sf := s5.gb (gb_sets w5 w.heap.size (winC 0 0) 0) hRw
      go_wp2_with (refine wpList_store_mid (op := ⟨none, .store 24 (.tmp 2) (.tmp 29), _, _, _, none⟩) rfl 24 _ _ rfl _ _ #[.int .i64 0, .int .u64 0] rfl rfl t5 infoW (two_cells _ _) ?_)
      refine bodyPost_ret (v := winV 0 0) ?_ rfl ?_
      · simp [results, Try.results24, Act.put, asAddr, hrs]
      · exact ⟨by rw [EB.out, EM.out]; rfl, by rw [G4.out, G5.out]; exact sf, gf⟩
    | true =>
      have EB : Hid (getB G = b0) := hide (by rw [hbs.out, hok.out, hg]; rfl)
      have EM : Hid (getM G = M) := hide (by rw [hms.out, hok.out, hg]; rfl)
      rw [hg] at cg
      clear hok hbs hms hg
      go_wp2_with fail
      refine cg.mono ?_
      rintro en w5 ⟨rfl, b5⟩
      have t5 := there_below t4 b5 (by omega)
      have s5 := s4.below b5
      have gg5 := gb_on gg4 b5 (by omega)
      have v5 := range_below v4 b5 (by omega)
      clear cg q0 q1 t4 s4 gg4 v4
      have q0 : w5.cell? ⟨P, 0, none⟩ = some (.int .i64 b0) := v5 0 _ rfl
      have q1 : w5.cell? ⟨P, 1, none⟩ = some (.int .u64 (M : Int)) := v5 1 _ rfl
      have hrs := win_load (win_set (B := b0) (m := (M : Int)) t5)
      have gf := gb_on gg5 (below_sets (B := w.heap.size) (b := w.heap.size) (Nat.le_refl _) (winC b0 (M : Int)) 0 _ (Below.refl _ w5)) (Nat.le_refl _)
      have sf := s5.gb (gb_sets w5 w.heap.size (winC b0 (M : Int)) 0) hRw
      go_wp2_with (refine wpList_store_mid (op := ⟨none, .store 24 (.tmp 2) (.tmp 30), _, _, _, none⟩) rfl 24 _ _ rfl _ _ #[.int .i64 b0, .int .u64 (M : Int)] rfl rfl t5 infoW (two_cells _ _) ?_)
      refine bodyPost_ret (v := winV b0 (M : Int)) ?_ rfl ?_
      · simp [results, Try.results24, Act.put, asAddr, hrs]
      · exact ⟨by rw [EB.out, EM.out], by rw [G4.out, G5.out]; exact sf, gf⟩
  · have EB : Hid (getB G = 0) := hide (by rw [hbs.out, hok.out, decide_eq_false he]; rfl)
    have EM : Hid (getM G = 0) := hide (by rw [hms.out, hok.out, decide_eq_false he]; rfl)
    clear hok hbs hms
    refine ce.mono ?_
    rintro en w5 ⟨rfl, hx⟩
    obtain rfl := hx
    clear ce
    have t5 := t4
    have s5 := s4
    have gg5 := gg4
    clear t4 s4 gg4 v4
    have hrs := win_load (win_set (B := 0) (m := 0) t5)
    have gf := gb_on gg5 (below_sets (B := w.heap.size) (b := w.heap.size) (Nat.le_refl _) (winC 0 0) 0 _ (Below.refl _ w5)) (Nat.le_refl _)
    have sf := s5.gb (gb_sets w5 w.heap.size (winC 0 0) 0) hRw
    go_wp2_with (refine wpList_store_mid (op := ⟨none, .store 24 (.tmp 2) (.tmp 29), _, _, _, none⟩) rfl 24 _ _ rfl _ _ #[.int .i64 0, .int .u64 0] rfl rfl t5 infoW (two_cells _ _) ?_)
    refine bodyPost_ret (v := winV 0 0) ?_ rfl ?_
    · simp [results, Try.results24, Act.put, asAddr, hrs]
    · exact ⟨by rw [EB.out, EM.out]; rfl, by rw [G4.out, G5.out]; exact sf, gf⟩
end Go.Proofs.Ytnjlamcpfclgaaa
