/- Windows in memory: two cells; loads and stores of them; what stays. -/
import Derived.Test.YtnjlamcpfclgaaaWRefs
import Derived.Test.YtnjlamcpfclgaaaWMath
import Derived.Test.YtnjlamcpfclgaaaWHeld
import Derived.Deep.MidRow
namespace Go.Proofs.Ytnjlamcpfclgaaa
open Go.RowKit
theorem range_below {w w' : World} {b o n : Nat} {cs : List Value} (h : w.rangeAt b o cs) (hb : Below n w w') (hn : b < n) : w'.rangeAt b o cs :=
  fun j u hu => (hb.cell (p := ⟨b, o + j, none⟩) hn).trans (h j u hu)
theorem there_below {w w' : World} {b o n m : Nat} (h : w.there b o m) (hb : Below n w w') (hn : b < n) : w'.there b o m :=
  fun j hj => ⟨by rw [hb.cell (p := ⟨b, o + j, none⟩) hn]; exact (h j hj).1, by rw [hb.frozen (p := ⟨b, o + j, none⟩) hn]; exact (h j hj).2⟩
theorem range_new (w : World) (arr : Array Value) (t : TypeId) : (w.alloc (.cells arr t)).rangeAt w.heap.size 0 arr.toList := fun j v hv => by
  rw [World.cell?_alloc_at _ _ _ _ rfl, Nat.zero_add]
  simpa using hv
theorem there_new (w : World) (arr : Array Value) (t : TypeId) : (w.alloc (.cells arr t)).there w.heap.size 0 arr.size := fun j hj => by
  refine ⟨?_, World.frozen?_alloc_at _ _ _ _ rfl⟩
  rw [World.cell?_alloc_at _ _ _ _ rfl, Nat.zero_add]
  simp [hj]
theorem below_sets {B b : Nat} {a : World} (hb : B ≤ b) : ∀ (vs : List Value) (o : Nat) (w : World), Below B a w → Below B a (w.setCells b o vs)
  | [], _, _, h => h
  | v :: r, o, _, h => below_sets hb r (o + 1) _ (h.setCell (p := ⟨b, o, none⟩) hb v)
theorem size_sets (b : Nat) : ∀ (vs : List Value) (o : Nat) (w : World), (w.setCells b o vs).heap.size = w.heap.size
  | [], _, _ => rfl
  | v :: r, o, _ => by rw [World.setCells, size_sets b r]; simp
theorem exec_load {P : Program} {o : Oper} {a : Act} {w : World} {ty : TypeId} {x : Operand} {b off : Nat} {v : Value} (ho : o.op = .load ty x) (hx : a.eval x = .pointer (some ⟨b, off, none⟩)) (hr : (loadVar ty ⟨b, off, none⟩).run P w = .ok v w) : (execOp a.eval o).run P w = .ok (.value v) w := by
  unfold execOp
  simp only [ho, hx, Instr.loadAt, Instr.sureAddr, Sem.run_bind, Sem.run_pure, Result.andThen_ok, hr]
theorem exec_store {P : Program} {o : Oper} {a : Act} {w w' : World} {ty : TypeId} {x y : Operand} {b off : Nat} {v : Value} (ho : o.op = .store ty x y) (hx : a.eval x = .pointer (some ⟨b, off, none⟩)) (hy : a.eval y = v) (hr : (storeVar ty ⟨b, off, none⟩ v).run P w = .ok () w') : (execOp a.eval o).run P w = .ok .skip w' := by
  unfold execOp
  simp only [ho, hx, hy, Instr.storeAt, Instr.sureAddr, Sem.run_bind, Sem.run_pure, Result.andThen_ok, hr]
abbrev winC (B m : Int) : List Value := [.int .i64 B, .int .u64 m]
abbrev winV (B m : Int) : Value := .agg #[.int .i64 B, .int .u64 m]
theorem infoW : (Try.prog.info? 24).map (·.size) = some 2 := by kernel_rfl
theorem win_load {w : World} {b : Nat} {B m : Int} (h : w.rangeAt b 0 (winC B m)) : (loadVar 24 ⟨b, 0, none⟩).run Try.prog w = .ok (winV B m) w :=
  run_loadVar_mid (P := Try.prog) w b 0 24 (winC B m) _ h Try.underlying24 rfl infoW
theorem win_store {w : World} {b : Nat} {B m : Int} (hT : w.there b 0 2) : (storeVar 24 ⟨b, 0, none⟩ (winV B m)).run Try.prog w = .ok () (w.setCells b 0 (winC B m)) :=
  run_storeVar_mid (P := Try.prog) w b 0 24 #[.int .i64 B, .int .u64 m] hT infoW (by simp [Value.oneCell'])
theorem win_set {w : World} {b : Nat} {B m : Int} (hT : w.there b 0 2) : (w.setCells b 0 (winC B m)).rangeAt b 0 (winC B m) :=
  World.rangeAt_setCells_same w b 0 (winC B m) (by simpa using hT)
theorem win_apart {w : World} {b c : Nat} {B m B' m' : Int} (h : w.rangeAt c 0 (winC B m)) (hne : c ≠ b) : (w.setCells b 0 (winC B' m')).rangeAt c 0 (winC B m) :=
  World.rangeAt_setCells_apart h b 0 _ (Or.inl hne)
/-- a boxed window, and new memory for the answer behind it -/
theorem two_box {w w1 : World} {B m : Int} (hb : Below ((w.alloc (.cells #[.int .i64 B, .int .u64 m] 24)).alloc (.cells #[.int .i64 0, .int .u64 0] 24)).heap.size ((w.alloc (.cells #[.int .i64 B, .int .u64 m] 24)).alloc (.cells #[.int .i64 0, .int .u64 0] 24)) w1) :
    w1.rangeAt w.heap.size 0 (winC B m) ∧ w1.there (w.heap.size + 1) 0 2 ∧ Below w.heap.size w w1 ∧ w.heap.size + 2 ≤ w1.heap.size := by
  have hs : (w.alloc (.cells #[.int .i64 B, .int .u64 m] 24)).heap.size = w.heap.size + 1 := World.size_alloc _ _
  have r1 := range_new w #[.int .i64 B, .int .u64 m] 24
  have b1 : Below w.heap.size w (w.alloc (.cells #[.int .i64 B, .int .u64 m] 24)) := (Below.refl _ _).alloc (Nat.le_refl _) _
  generalize w.alloc (.cells #[.int .i64 B, .int .u64 m] 24) = wa at *
  have hs2 : (wa.alloc (.cells #[.int .i64 0, .int .u64 0] 24)).heap.size = w.heap.size + 2 := by rw [World.size_alloc, hs]
  have t2 := there_new wa #[.int .i64 0, .int .u64 0] 24
  have b2 : Below wa.heap.size wa (wa.alloc (.cells #[.int .i64 0, .int .u64 0] 24)) := (Below.refl _ _).alloc (Nat.le_refl _) _
  have r2 := range_below r1 b2 (by omega)
  generalize wa.alloc (.cells #[.int .i64 0, .int .u64 0] 24) = wb at *
  rw [hs] at t2
  refine ⟨range_below r2 hb (by omega), there_below t2 hb (by omega), (b1.trans (b2.mono (by omega))).trans (hb.mono (by omega)), ?_⟩
  have := hb.size
  omega
theorem two_box_there {w w1 : World} {B m : Int} (hb : Below ((w.alloc (.cells #[.int .i64 B, .int .u64 m] 24)).alloc (.cells #[.int .i64 0, .int .u64 0] 24)).heap.size ((w.alloc (.cells #[.int .i64 B, .int .u64 m] 24)).alloc (.cells #[.int .i64 0, .int .u64 0] 24)) w1) :
    w1.there w.heap.size 0 2 := by
  have hs : (w.alloc (.cells #[.int .i64 B, .int .u64 m] 24)).heap.size = w.heap.size + 1 := World.size_alloc _ _
  have t1 := there_new w #[.int .i64 B, .int .u64 m] 24
  generalize w.alloc (.cells #[.int .i64 B, .int .u64 m] 24) = wa at *
  have hs2 : (wa.alloc (.cells #[.int .i64 0, .int .u64 0] 24)).heap.size = w.heap.size + 2 := by rw [World.size_alloc, hs]
  have b2 : Below wa.heap.size wa (wa.alloc (.cells #[.int .i64 0, .int .u64 0] 24)) := (Below.refl _ _).alloc (Nat.le_refl _) _
  exact there_below (there_below t1 b2 (by omega)) hb (by omega)
/-- a boxed window -/
theorem one_box {w w1 : World} {B m : Int} (hb : Below (w.alloc (.cells #[.int .i64 B, .int .u64 m] 24)).heap.size (w.alloc (.cells #[.int .i64 B, .int .u64 m] 24)) w1) :
    w1.rangeAt w.heap.size 0 (winC B m) ∧ Below w.heap.size w w1 ∧ w.heap.size < w1.heap.size := by
  have hs : (w.alloc (.cells #[.int .i64 B, .int .u64 m] 24)).heap.size = w.heap.size + 1 := World.size_alloc _ _
  have r1 := range_new w #[.int .i64 B, .int .u64 m] 24
  have b1 : Below w.heap.size w (w.alloc (.cells #[.int .i64 B, .int .u64 m] 24)) := (Below.refl _ _).alloc (Nat.le_refl _) _
  generalize w.alloc (.cells #[.int .i64 B, .int .u64 m] 24) = wa at *
  refine ⟨range_below r1 hb (by omega), b1.trans (hb.mono (by omega)), ?_⟩
  have := hb.size
  omega
theorem new_any (w : World) : Calls Try.prog 10 #[] w fun e w' => e = .returned (winV 1 0) ∧ Below w.heap.size w w' := by
  go_enter Try.func10, Try.ntmps10
  go_wp2_with fail
  have hrs := win_load (range_new w #[.int .i64 1, .int .u64 0] 24)
  exact bodyPost_ret (v := winV 1 0) (by simp [results, Try.results10, asAddr, hrs]) rfl ⟨rfl, (Below.refl _ _).alloc (Nat.le_refl _) _⟩
end Go.Proofs.Ytnjlamcpfclgaaa
