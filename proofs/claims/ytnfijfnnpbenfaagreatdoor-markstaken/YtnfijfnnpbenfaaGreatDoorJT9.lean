/- a state's digest, the program's and the document's; the document's bytes; seal.blockOf: a key, filled up to a block; the closure of seal.Mac: the digest of the  -/
import Derived.Test.YtnfijfnnpbenfaaGreatDoorJT0
import Derived.Test.YtnfijfnnpbenfaaGreatDoorJT5
import Derived.Test.YtnfijfnnpbenfaaGreatDoorJT8
import Derived.Test.YtnfijfnnpbenfaaGreatDoorJT7
import Derived.Test.YtnfijfnnpbenfaaGreatDoorJT4
import Derived.Test.YtnfijfnnpbenfaaGreatDoorJT2
import Derived.Test.YtnfijfnnpbenfaaGreatDoorJT3
import Derived.Lib.SlBytesConst
import Derived.Laws.MakeOwn
import Derived.Laws.IdiomStrings
import Derived.WalkKit
import Derived.WalkSpells
import Derived.WalkLawsBesides
import Derived.Below
import Derived.Test.YtnfijfnnpbenfaaGreatDoorRows
import Derived.Test.YtnfijfnnpbenfaaGreatDoorCards
import Derived.Test.YtnfijfnnpbenfaaGreatDoorTie
import Derived.ProofKit
import Derived.OpenShut
import Derived.ShutString
import Derived.ChangeOld
import Derived.LaidMore
import Derived.Stop.Joined
import Derived.Lib.LaidTab
import Derived.Deep.OwnRows
namespace Go.Proofs.YtnfijfnnpbenfaaGreatDoor
open Go.RowKit
open Sha Tal
set_option linter.unusedVariables false
set_option linter.unusedSimpArgs false
theorem partsS2 (w : World) (p q : Part) (hp : p.at w) (hq : q.at w) : PartsAt (w.alloc (.cells #[p.val, q.val] 57)) (some ⟨w.heap.size, 0, none⟩) [p, q] := by
 have hb : Below w.heap.size w (w.alloc (.cells #[p.val, q.val] 57)) := (Below.refl _ _).alloc (Nat.le_refl _) _
 refine ⟨by unfold maxLen; simp, fun x hx => ?_, Or.inr ⟨w.heap.size, 0, rfl, by simp, range_new w #[p.val, q.val] 57⟩⟩
 rcases List.mem_cons.1 hx with rfl | hx
 ·exact hp.below hb
 ·obtain rfl := List.mem_singleton.1 hx
  exact hq.below hb
theorem strL_strOf {zs : List Int} (h : ∀ z ∈ zs, 0 ≤ z ∧ z < 256) : strL (strOf zs) = zs := strOf_inj (strL_byte _) h (by rw [strOf_strL])
theorem results_cell {fn : Func} {p : Tmp} {ty : TypeId} (h : fn.results = #[.cell p ty]) (tmps : Array Value) (P : Program) (w : World) {a : Addr} {v : Value} (ha : tmps.getD p undef = .pointer (some a)) (hv : (loadVar ty a).run P w = .ok v w) : (results fn tmps).run P w = .ok v w := by
 have e : (results fn tmps).run P w = ((asAddr (tmps.getD p undef)).run P w).andThen fun a w₁ => (loadVar ty a).run P w₁ := by
  simp only [results, h]
  simp [Sem.run_bind, Result.andThen]
 rw [e, ha]
 simp [asAddr, hv, Result.andThen]
theorem ex_bs2 {P : Program} {o : Oper} {a : Act} {w w' : World} {t : TypeId} {x y : Operand} {u v r : Value} (ho : o.op = .buildSlice t 2 #[(0, x), (1, y)]) (hx : a.eval x = u) (hy : a.eval y = v) (hr : (Instr.buildSlice t 2 #[(0, u), (1, v)]).run P w = .ok r w') : (execOp a.eval o).run P w = .ok (.value r) w' := by
 unfold execOp
 simp [ho, hx, hy, hr]
theorem Stt.bytes_sp (s : Stt) : s.bytes = s.sp.bytes := by
 unfold Stt.bytes Stt.b3 Stt.b2 Stt.b1 Sp.bytes Stt.sp
 rw [List.take_length, List.take_length]
 simp only [List.append_assoc]
theorem Stt.B_sp {s t : Stt} : s.B t = true ↔ s.sp = t.sp := by
 rw [Stt.B_iff]
 unfold Stt.sp
 simp only [Sp.mk.injEq]
theorem RowAt.str {w : World} {a : Option Addr} {zs : List Int} (h : RowAt w a zs) (cap : Nat) : (convert 57 9 (.slice a zs.length cap)).run Tryz.prog w = .ok (.string (strOf zs)) w := row_mine h cap
theorem flat_byte {α : Type} {f : α → List Int} {xs : List α} (h : ∀ x ∈ xs, ∀ z ∈ f x, 0 ≤ z ∧ z < 256) : ∀ z ∈ xs.flatMap f, 0 ≤ z ∧ z < 256 := fun z hz => by
 obtain ⟨x, hx, hz⟩ := List.mem_flatMap.1 hz
 exact h x hx z hz
theorem wd_byte {x : Wd} (h : x.ok) : ∀ z ∈ x.bytes, 0 ≤ z ∧ z < 256 := fun z hz => by
 unfold Wd.bytes Wn.winL at hz
 have hm := h.ml
 have hh := h.hi
 rcases List.mem_append.1 hz with hz | hz
 ·rcases List.mem_append.1 hz with hz | hz
  ·exact putL_byte _ (by omega) z hz
  ·exact putL_byte _ (by omega) z hz
 ·exact putL_byte _ (by omega) z hz
theorem Stt.byteM {s : Stt} (h : s.ok) (hw : ∀ y ∈ s.ws.xs, y.ok) (hp : ∀ z ∈ s.ps.xs, PnOk z) (l1 : s.ws.xs.length ≤ 100) (l2 : s.ps.xs.length ≤ 200) : ∀ z ∈ s.bytes, 0 ≤ z ∧ z < 256 := fun z hz => by
 rw [Stt.bytes_sp] at hz
 unfold Sp.bytes Stt.sp at hz
 simp only [List.mem_append] at hz
 have h1 := h.e1
 have h2 := h.n1
 have h3 := h.c1
 rcases hz with hz | hz | hz | hz | hz | hz | hz | hz
 ·exact putL_byte _ (by omega) z hz
 ·exact putL_byte _ (by omega) z hz
 ·exact putL_byte _ (by omega) z hz
 ·exact h.db z hz
 ·exact putL_byte _ (by omega) z hz
 ·exact flat_byte (fun y hy => wd_byte (hw y hy)) z hz
 ·exact putL_byte _ (by omega) z hz
 ·exact flat_byte (fun y hy z hz => putL_byte _ (by have := (hp y hy).hi; omega) z hz) z hz
theorem run_bs83 (w : World) : (Instr.buildSlice 57 1 #[(0, .int .u8 83)]).run Tryz.prog w = .ok (.slice (some ⟨w.heap.size, 0, none⟩) 1 1) (w.alloc (.cells #[.int .u8 83] 5)) := by kernel_rfl
theorem run_bsP (a b : Option Addr) (n m c d : Nat) (w : World) : (Instr.buildSlice 141 2 #[(0, .slice a n c), (1, .slice b m d)]).run Tryz.prog w = .ok (.slice (some ⟨w.heap.size, 0, none⟩) 2 2) (w.alloc (.cells #[.slice a n c, .slice b m d] 57)) := by kernel_rfl
theorem row83 (w : World) : RowAt (w.alloc (.cells #[.int .u8 83] 5)) (some ⟨w.heap.size, 0, none⟩) [83] :=
 ⟨by unfold maxLen; simp, by simp, Or.inr ⟨_, _, rfl, by simp, range_new w #[.int .u8 83] 5⟩⟩
theorem iszDg : (Tryz.prog.info? 32).map (·.size) = some 32 := by kernel_rfl
theorem zeroDg (w : World) : (zeroValue 32).run Tryz.prog w = .ok (.agg (v8 zeros32).toArray) w := by kernel_rfl
def Stt.dig (s : Stt) : List Int := sha (83 :: s.bytes)
theorem strL_add (t : ByteArray) : strL (⟨#[83]⟩ ++ t) = 83 :: strL t := by
 simp [strL, ByteArray.data_append]
set_option maxRecDepth 100000 in
set_option maxHeartbeats 1000000 in
theorem sdigest_any (x : Stt) (w : World) (hG : Glob w) (xo : x.ok) (xa : x.At w) (hw : x.ws.xs.length ≤ 100) (hp : x.ps.xs.length ≤ 200) : Calls Tryz.prog 13 #[.agg x.cells.toArray] w fun e w' => e = .returned (.agg (v8 x.dig).toArray) ∧ Below w.heap.size w w' := by
 have hlen := Stt.b3_le xo hw hp (fun y hy => xa.ws.2.1 y hy) (fun z hz => xa.ps.2.1 z hz) x.ps.xs.length
 obtain ⟨m, hm⟩ : ∃ m, Hid (x.dig = m) := ⟨_, hide rfl⟩
 have hml : m.length = 32 := by rw [← hm.out]; exact sha_length _
 rw [hm.out]
 have HM : Hid (sha (83 :: x.bytes) = m) := hm
 clear hm
 have hz1 : zeros32.length = 32 := by decide
 have hdz : ∀ w : World, (zeroValue 32).run Tryz.prog w = .ok (.agg (v8 zeros32).toArray) w := zeroDg
 obtain ⟨hB0, hr0, hs0⟩ := boxed_new w x.cells 36
 have hix : (Tryz.prog.info? 36).map (·.size) = some x.cells.length := by rw [Stt.len xo]; exact iszSt
 have cb := fun w0 (h0 : x.At w0) => sbytesOf_any x w0 xo h0 hw hp
 change x.bytes.length ≤ 5000 at hlen
 generalize x.bytes = F at *
 obtain ⟨q, hq⟩ : ∃ q, Hid (x.cells = q) := ⟨_, hide rfl⟩
 simp only [hq.out] at hB0 hr0 hs0 hix cb ⊢
 go_enter Tryz.func13, Tryz.ntmps13
 go_upto_region 0 with fail
 try simp only [Act.put]
 refine pl_begin ?_
 refine pl_run (d := some 1) (v := .pointer (some ⟨w.heap.size, 0, none⟩)) (w' := w.alloc (.cells q.toArray 36)) (by rfl) (ex_boxR rfl rfl) rfl ?_
 simp only [nz]
 obtain ⟨W0, hW0⟩ : ∃ W, w.alloc (.cells q.toArray 36) = W := ⟨_, rfl⟩
 rw [hW0] at hB0 hr0 hs0 ⊢
 clear hW0
 obtain ⟨hB1, -, hs1⟩ := boxed_new W0 (v8 zeros32) 32
 have ht1 := there_newN W0 (v8 zeros32).toArray 32 (n := 32) (by simp [v8_length, hz1])
 refine pl_run (d := some 2) (v := .pointer (some ⟨W0.heap.size, 0, none⟩)) (w' := W0.alloc (.cells (v8 zeros32).toArray 32)) (by rfl) (ex_alloc rfl (hdz _)) rfl ?_
 simp only [nz]
 refine pl_nil ?_
 obtain ⟨W1, hW1⟩ : ∃ W, W0.alloc (.cells (v8 zeros32).toArray 32) = W := ⟨_, rfl⟩
 rw [hW1] at hB1 hs1 ht1 ⊢
 clear hW1
 have hr1 := range_below hr0 hB1 hs0
 have B1 := hB0.trans (hB1.mono (by omega))
 have xa1 := xa.below B1
 obtain ⟨A, hA⟩ : ∃ X, W0.heap.size = X := ⟨_, rfl⟩
 obtain ⟨C, hC⟩ : ∃ X, w.heap.size = X := ⟨_, rfl⟩
 rw [hA] at hs1 ht1 hs0
 rw [hC] at hs0 hr1
 have hwA : w.heap.size ≤ A := by omega
 simp only [hA, hC]
 clear hr0 hB0 hB1 hA hdz
 have hb2 : Below W1.heap.size W1 (W1.alloc (.cells #[.int .u8 83] 5)) := (Below.refl _ _).alloc (Nat.le_refl _) _
 have r83 := row83 W1
 go_upto_region 1 with fail
 try simp only [Act.put]
 refine pl_begin ?_
 refine pl_run (d := some 3) (v := .slice (some ⟨W1.heap.size, 0, none⟩) 1 1) (w' := W1.alloc (.cells #[.int .u8 83] 5)) (by rfl) (ex_bsi rfl rfl (run_bs83 _)) rfl ?_
 simp only [nz]
 obtain ⟨w2, hw2⟩ : ∃ w2, W1.alloc (.cells #[.int .u8 83] 5) = w2 := ⟨_, rfl⟩
 rw [hw2] at hb2 r83 ⊢
 clear hw2
 have hr2 := range_below hr1 hb2 (by omega)
 have xa2 := xa1.below hb2
 refine pl_t 4 (.agg q.toArray) (by rfl) (ex_mid rfl rfl hr2 Tryz.underlying36 rfl hix) rfl ?_
 simp only [nz]
 refine pl_call (d := some 5) (by rfl) (by go_simp; first | done | exact ⟨rfl, rfl⟩ | with_reducible rfl) rfl ?_
 refine (cb w2 xa2).mono ?_
 rintro _ w3 ⟨v3, rfl, m3, hb3⟩
 obtain ⟨a3, cap3, rfl, hc3, hm3, rowF⟩ := m3.rowAt (by unfold maxLen; omega)
 refine ⟨_, rfl, ?_⟩
 simp only [nz]
 have r83' := r83.below hb3
 have hP := partsS2 w3 ⟨some ⟨W1.heap.size, 0, none⟩, 1, [83]⟩ ⟨a3, cap3, F⟩ ⟨r83', by simp, by show 1 ≤ maxLen; unfold maxLen; omega⟩ ⟨rowF, hc3, hm3⟩
 have hcat : cat [(⟨some ⟨W1.heap.size, 0, none⟩, 1, [83]⟩ : Part), ⟨a3, cap3, F⟩] = 83 :: F := by simp [cat]
 have hb4 : Below w3.heap.size w3 (w3.alloc (.cells #[.slice (some ⟨W1.heap.size, 0, none⟩) 1 1, .slice a3 F.length cap3] 57)) := (Below.refl _ _).alloc (Nat.le_refl _) _
 have B3 := (B1.trans (hb2.mono B1.size)).trans (hb3.mono (Nat.le_trans B1.size hb2.size))
 have B4 := B3.trans (hb4.mono B3.size)
 have cs := sum_any (some ⟨w3.heap.size, 0, none⟩) 2 _ (w3.alloc (.cells #[.slice (some ⟨W1.heap.size, 0, none⟩) 1 1, .slice a3 F.length cap3] 57)) (hG.below B4) hP (by rw [hcat]; simp; omega)
 rw [hcat, HM.out] at cs
 simp only [List.length_cons, List.length_nil, Nat.zero_add] at cs
 have ht4 := there_below (there_below (there_below ht1 hb2 hs1) hb3 (by have := hb2.size; omega)) hb4 (by have := hb2.size; have := hb3.size; omega)
 have sA4 := Nat.lt_of_lt_of_le hs1 (Nat.le_trans hb2.size (Nat.le_trans hb3.size hb4.size))
 clear hP hcat m3 rowF r83 r83' cb xa1 xa2 hr1 hr2 ht1 hb2 hb3 B1 B3
 refine pl_run (d := some 6) (v := .slice (some ⟨w3.heap.size, 0, none⟩) 2 2) (w' := w3.alloc (.cells #[.slice (some ⟨W1.heap.size, 0, none⟩) 1 1, .slice a3 F.length cap3] 57)) (by rfl) (ex_bs2 rfl rfl rfl (run_bsP _ _ _ _ _ _ _)) rfl ?_
 simp only [nz]
 refine pl_call (d := some 7) (by rfl) (by go_simp; first | done | exact ⟨rfl, rfl⟩ | with_reducible rfl) rfl ?_
 refine (cs).mono ?_
 rintro _ w5 ⟨rfl, hb5⟩
 refine ⟨_, rfl, ?_⟩
 simp only [nz]
 have ht5 := there_below ht4 hb5 sA4
 have B5 := B4.trans (hb5.mono B4.size)
 have hth : w5.there A 0 (v8 m).length := by rw [v8_length, hml]; exact ht5
 have hid : (Tryz.prog.info? 32).map (·.size) = some (v8 m).length := by rw [v8_length, hml]; exact iszDg
 refine pl_store (w' := w5.setCells A 0 (v8 m)) (by rfl) (ex_put (cs := (v8 m).toArray) rfl rfl rfl (by simpa using hth) (by simpa using hid) (all_one (v8_one m))) rfl ?_
 refine pl_nil ?_
 have hrs := run_loadVar_mid (P := Tryz.prog) (w5.setCells A 0 (v8 m)) A 0 32 (v8 m) _ (World.rangeAt_setCells_same w5 A 0 (v8 m) hth) Tryz.underlying32 rfl hid
 have HB := hide (below_sets hwA (v8 m) 0 _ B5)
 clear cs ht4 ht5 hth B4 B5 hb4 hb5
 go_wp2_with fail
 refine bodyPost_ret (results_cell rfl _ _ _ rfl hrs) rfl ?_
 exact ⟨rfl, HB.out⟩
def Lb (w : World) (X : Nat) (x : Stt) (wr : World) (a : Option Addr) (zs : List Int) : Prop := RowAt wr a zs ∧ Below w.heap.size w wr ∧ wr.rangeAt X 0 x.cells ∧ X < wr.heap.size
theorem mine_row {W : World} {B : Nat} {v : Value} {zs : List Int} (h : Mine W B v zs) (hl : zs.length ≤ 100000) : ∃ a c, v = .slice a zs.length c ∧ RowAt W a zs := by
 obtain ⟨a, c, e, -, -, r⟩ := h.rowAt (by unfold maxLen; omega)
 exact ⟨a, c, e, r⟩
set_option maxRecDepth 100000 in
set_option maxHeartbeats 8000000 in
theorem xsbytes_any (x : Stt) (w : World) (xo : x.ok) (xa : x.At w) (hw : x.ws.xs.length ≤ 100) (hp : x.ps.xs.length ≤ 200) : Calls Tryz.prog 59 #[.agg x.cells.toArray] w fun e w' => e = .returned (.string (strOf x.bytes)) ∧ Below w.heap.size w w' := by
 obtain ⟨i0, hi, hz0, hz1, hz2⟩ := info_parts Wn.info5
 have cp := fun a cap zs n w0 h0 hl hn => refPut_any a cap zs n w0 h0 hl hn
 have cw := fun a cap zs (y : Wd) w0 h0 hl (ho : y.ok) => Wn.refWPut_any a cap zs y.b y.m w0 h0 hl ho.ml ho.hi
 have cd := fun w0 => bytes_any x.d w0 xo.dl
 have h1 := xo.e1
 have h2 := xo.n1
 have h3 := xo.c1
 have g1 := putL9 x.e h1
 have g2 := putL9 x.n h2
 have g3 := putL9 x.c h3
 have okw := fun y hy => xa.ws.2.1 y hy
 have okp := fun z hz => xa.ps.2.1 z hz
 have l1 := Stt.b1_le xo hw
 have l2 := fun k => Stt.b2_le xo hw okw k
 have l3 := fun k => Stt.b3_le xo hw hp okw okp k
 have hix : (Tryz.prog.info? 36).map (·.size) = some x.cells.length := by rw [Stt.len xo]; exact iszSt
 obtain ⟨hB0, hr0, hs0⟩ := boxed_new w x.cells 36
 have mw : x.ws.xs.length ≤ maxLen := xa.ws.1
 have mp : x.ps.xs.length ≤ maxLen := xa.ps.1
 obtain ⟨q, hq⟩ : ∃ q, Hid (x.cells = q) := ⟨_, hide rfl⟩
 rw [hq.out]
 rw [hq.out] at hB0 hr0 hs0
 go_enter Tryz.func59, Tryz.ntmps59
 go_upto_region 0 with fail
 try simp only [Act.put]
 refine pl_begin ?_
 refine pl_run (d := some 1) (v := .pointer (some ⟨w.heap.size, 0, none⟩)) (w' := w.alloc (.cells q.toArray 36)) (by rfl) (ex_boxR rfl rfl) rfl ?_
 simp only [nz]
 refine pl_t 2 (?_) (by rfl) ?_ rfl ?_
 rotate_left
 ·go_simp
  try with_reducible rfl
 simp only [nz]
 refine pl_nil ?_
 obtain ⟨W0, hW0⟩ : ∃ W, w.alloc (.cells q.toArray 36) = W := ⟨_, rfl⟩
 rw [hW0] at hB0 hr0 hs0 ⊢
 clear hW0
 obtain ⟨X, hX⟩ : ∃ X, w.heap.size = X := ⟨_, rfl⟩
 rw [hX] at hr0 hs0
 simp only [hX]
 have hwX : w.heap.size ≤ X := by omega
 clear hX
 go_upto_region 1 with fail
 have r8 : W0.drew.rangeAt X 0 x.cells := by rw [hq.out]; exact (World.rangeAt_drew _ _ _ _).2 hr0
 have B8 : Below w.heap.size w W0.drew := hB0.drew
 have hX8 : X < W0.drew.heap.size := hs0
 refine hs_begin (S := (Below W0.drew.heap.size W0.drew)) 10 rfl (by kernel_rfl) ?_
 obtain ⟨w8, hw8⟩ : ∃ W, W0.drew = W := ⟨_, rfl⟩
 rw [hw8] at r8 B8 hX8 ⊢
 clear hw8 hr0 hB0 hs0
 have hS : (Below w8.heap.size w8) w8 := Below.refl _ _
 have p8 := st_parts xo r8
 refine hs_t 0 6 (?_) rfl (by kernel_rfl) (by kernel_rfl) (by kernel_rfl) (by rfl) ?_ hS rfl ?_
 rotate_left
 ·intro w' hw
  go_simp
  try with_reducible rfl
 simp only [nz]
 refine hs_t 1 7 (.int .i64 x.e) rfl (by kernel_rfl) (by kernel_rfl) (by kernel_rfl) (by rfl) (fun w' hw => pl_one rfl rfl ((hw.cell (p := ⟨X, 0, none⟩) hX8).trans p8.e) Tryz.underlying3 rfl) hS rfl ?_
 simp only [nz]
 refine hs_t 3 9 (?_) rfl (by kernel_rfl) (by kernel_rfl) (by kernel_rfl) (by rfl) ?_ hS rfl ?_
 rotate_left
 ·intro w' hw
  go_simp
  try with_reducible rfl
 simp only [nz]
 refine hs_t 4 10 (.int .i64 x.n) rfl (by kernel_rfl) (by kernel_rfl) (by kernel_rfl) (by rfl) (fun w' hw => pl_one rfl rfl ((hw.cell (p := ⟨X, 1, none⟩) hX8).trans p8.n) Tryz.underlying3 rfl) hS rfl ?_
 simp only [nz]
 refine hs_t 6 12 (?_) rfl (by kernel_rfl) (by kernel_rfl) (by kernel_rfl) (by rfl) ?_ hS rfl ?_
 rotate_left
 ·intro w' hw
  go_simp
  try with_reducible rfl
 simp only [nz]
 refine hs_t 7 13 (.int .i64 x.c) rfl (by kernel_rfl) (by kernel_rfl) (by kernel_rfl) (by rfl) (fun w' hw => pl_one rfl rfl ((hw.cell (p := ⟨X, 2, none⟩) hX8).trans p8.c) Tryz.underlying3 rfl) hS rfl ?_
 simp only [nz]
 refine hs_call (i := 2) (d := some 8) rfl (by kernel_rfl) (by rfl) (by go_simp; first | done | exact ⟨rfl, rfl⟩ | with_reducible rfl) rfl ?_
 refine (cp none 0 [] x.e w8 (nil_row _) (by simp) h1).mono ?_
 rintro _ wa ⟨va, rfl, ma, hb_wa⟩
 have hS : (Below w8.heap.size w8) wa := hS.trans (hb_wa.mono hS.size)
 refine ⟨_, rfl, hS, ?_⟩
 simp only [nz]
 obtain ⟨aa, ca, rfl, -, -, ra⟩ := ma.rowAt (by simp; unfold maxLen; omega)
 simp only [List.nil_append] at ra
 refine hs_call (i := 5) (d := some 11) rfl (by kernel_rfl) (by rfl) (by go_simp; first | done | exact ⟨rfl, rfl⟩ | with_reducible rfl) rfl ?_
 refine (cp aa ca (putL x.e) x.n wa ra (by omega) h2).mono ?_
 rintro _ wb ⟨vb, rfl, mb, hb_wb⟩
 have hS : (Below w8.heap.size w8) wb := hS.trans (hb_wb.mono hS.size)
 refine ⟨_, rfl, hS, ?_⟩
 simp only [nz]
 obtain ⟨z2, hz2'⟩ : ∃ z, Hid (putL x.e ++ putL x.n = z) := ⟨_, hide rfl⟩
 have lz2 : z2.length ≤ 18 := by rw [← hz2'.out, List.length_append]; omega
 rw [hz2'.out] at mb
 obtain ⟨ab, cb, rfl, -, -, rb⟩ := mb.rowAt (by unfold maxLen; omega)
 refine hs_call (i := 8) (d := some 14) rfl (by kernel_rfl) (by rfl) (by go_simp; first | done | exact ⟨rfl, rfl⟩ | with_reducible rfl) rfl ?_
 refine (cp ab cb z2 x.c wb rb (by omega) h3).mono ?_
 rintro _ wc ⟨vc, rfl, mc, hb_wc⟩
 have hS : (Below w8.heap.size w8) wc := hS.trans (hb_wc.mono hS.size)
 refine ⟨_, rfl, hS, ?_⟩
 simp only [nz]
 obtain ⟨zs, hz3'⟩ : ∃ z, Hid (z2 ++ putL x.c = z) := ⟨_, hide rfl⟩
 have hzl : zs.length ≤ 27 := by rw [← hz3'.out, List.length_append]; omega
 rw [hz3'.out] at mc
 obtain ⟨ac, cc, rfl, -, -, rc⟩ := mc.rowAt (by unfold maxLen; omega)
 refine hs_t 9 3 (?_) rfl (by kernel_rfl) (by kernel_rfl) (by kernel_rfl) (by rfl) ?_ hS rfl ?_
 rotate_left
 ·intro w' hw
  go_simp
  try with_reducible rfl
 simp only [nz]
 refine hs_done (by kernel_rfl) ?_
 have B2 := B8.trans (hS.mono B8.size)
 have r2 := range_below r8 hS hX8
 have hX2 := Nat.lt_of_lt_of_le hX8 hS.size
 have p2 := st_parts xo r2
 have hXb : X < wb.heap.size := by have := hb_wa.size; have := hb_wb.size; omega
 have hS0 : w8.heap.size ≤ wb.heap.size := Nat.le_trans hb_wa.size hb_wb.size
 have hS1 := B8.size
 clear ra rb ma mb p8 hb_wa hb_wb hS r8 B8 hX8
 have hd32 : (Tryz.prog.info? 32).map (·.size) = some (v8 x.d).length := by rw [v8_length, xo.dl]; exact iszDg
 obtain ⟨z4, hz4⟩ : ∃ z, Hid (zs ++ x.d = z) := ⟨_, hide rfl⟩
 have lz4 : z4.length ≤ 59 := by rw [← hz4.out, List.length_append, xo.dl]; omega
 have hb1e : Hid (z4 ++ putL (x.ws.xs.length : Int) = x.b2 0) := hide (by rw [← hz4.out, ← hz3'.out, ← hz2'.out, Stt.b2_zero]; rfl)
 go_upto_region 2 with fail
 try simp only [Act.put]
 refine pl_begin ?_
 refine pl_t 15 (?_) (by rfl) ?_ rfl ?_
 rotate_left
 ·go_simp
  try with_reducible rfl
 simp only [nz]
 refine pl_t 16 (?_) (by rfl) ?_ rfl ?_
 rotate_left
 ·go_simp
  try with_reducible rfl
 simp only [nz]
 refine pl_t 17 (.agg (v8 x.d).toArray) (by rfl) (ex_mid rfl rfl p2.d Tryz.underlying32 rfl hd32) rfl ?_
 simp only [nz]
 refine pl_call (d := some 18) (by rfl) (by go_simp; first | done | exact ⟨rfl, rfl⟩ | with_reducible rfl) rfl ?_
 refine (cd wc).mono ?_
 rintro _ wd ⟨vd, rfl, od, hb_wd⟩
 have md : Mine wd wc.heap.size vd x.d := Mine.mk' _ od rfl rfl xo.db
 obtain ⟨ad, cdd, rfl, -, -, rd⟩ := md.rowAt (by rw [xo.dl]; unfold maxLen; omega)
 have mc' := mc.below hb_wd
 have dl := xo.dl
 have hzz := hb_wc.size
 obtain ⟨v6, w6, hrun, hown, hgr⟩ := run_append_own_src (P := Tryz.prog) wd wb.heap.size 57 57 57 5 i0 (.int .u8 0) 1 1 Tryz.underlying57 hi hz0 hz1 hz2 rfl _ zs.length _ mc'.1 (.slice ad x.d.length cdd) x.d.length (v8 x.d) (rd.src cdd) (by unfold maxLen; omega) (by omega) (by have := hb_wd.size; omega)
 have hM : Mine w6 wb.heap.size v6 (zs ++ x.d) := Mine.mk' _ hown (by simp) (by simp [v8]) (fun z hz => by
  rcases List.mem_append.1 hz with hz | hz
  ·exact mc'.2 z hz
  ·exact xo.db z hz)
 rw [hz4.out] at hM
 have hb6 : Below wb.heap.size wd w6 := own_low (Below.refl _ _) (by have := hb_wd.size; omega) mc'.1 hgr
 obtain ⟨a6, c6, rfl, r6⟩ := mine_row hM (by omega)
 refine ⟨_, rfl, ?_⟩
 simp only [nz]
 refine pl_run (d := some 19) (v := .slice a6 z4.length c6) (w' := w6) (by rfl) (exec_append rfl rfl rfl hrun) rfl ?_
 simp only [nz]
 refine pl_t 3 (?_) (by rfl) ?_ rfl ?_
 rotate_left
 ·go_simp
  try with_reducible rfl
 simp only [nz]
 refine pl_nil ?_
 have B6 := (B2.trans (hb_wd.mono B2.size)).trans (hb6.mono (by have := hS0; have := B2.size; omega))
 have r6x : w6.rangeAt X 0 x.cells := range_below (range_below r2 hb_wd hX2) hb6 hXb
 have hX6 : X < w6.heap.size := by have := hb6.size; have := hb_wd.size; omega
 have p6 := st_parts xo r6x
 clear hrun hown hgr hM mc mc' md od rd rc r2 p2 hb_wd hb6 cd B2 hd32 hX2
 have hp5 := p6.ws
 unfold Sl.val at hp5
 go_upto_region 3 with fail
 try simp only [Act.put]
 refine pl_begin ?_
 refine pl_t 20 (?_) (by rfl) ?_ rfl ?_
 rotate_left
 ·go_simp
  try with_reducible rfl
 simp only [nz]
 refine pl_t 21 (?_) (by rfl) ?_ rfl ?_
 rotate_left
 ·go_simp
  try with_reducible rfl
 simp only [nz]
 refine pl_t 22 (.slice x.ws.a x.ws.xs.length x.ws.cap) (by rfl) (pl_one rfl rfl hp5 Tryz.underlying33 rfl) rfl ?_
 simp only [nz]
 refine pl_t 23 (?_) (by rfl) ?_ rfl ?_
 rotate_left
 ·go_simp
  try with_reducible rfl
 simp only [nz]
 refine pl_call (d := some 24) (by rfl) (by go_simp; first | done | exact ⟨rfl, rfl⟩ | with_reducible rfl) rfl ?_
 refine (cp a6 c6 z4 (x.ws.xs.length : Int) w6 r6 (by omega) (by unfold maxLen at mw; omega)).mono ?_
 rintro _ w7 ⟨v7, rfl, m7, hb_w7⟩
 rw [hb1e.out] at m7
 obtain ⟨a7, c7, rfl, r7⟩ := mine_row m7 (by have := l2 0; omega)
 refine ⟨_, rfl, ?_⟩
 simp only [nz]
 refine pl_t 3 (?_) (by rfl) ?_ rfl ?_
 rotate_left
 ·go_simp
  try with_reducible rfl
 simp only [nz]
 refine pl_nil ?_
 have HL0 : Hid (Lb w X x w7 a7 (x.b2 0)) := hide ⟨r7, B6.trans (hb_w7.mono B6.size), range_below r6x hb_w7 hX6, Nat.lt_of_lt_of_le hX6 hb_w7.size⟩
 clear m7 r7 r6 B6 r6x hX6 p6 hp5 hb_w7 hb1e
 go_upto_region 4 with fail
 try simp only [Act.put]
 refine pl_begin ?_
 refine pl_t 4 (?_) (by rfl) ?_ rfl ?_
 rotate_left
 ·go_simp
  try with_reducible rfl
 simp only [nz]
 refine pl_nil ?_
 go_wp2_with fail
 go_loopw [3, 4] (fun bv iv wr => ∃ (k : Nat) (a : Option Addr) (c : Nat), k ≤ x.ws.xs.length ∧ bv = .slice a (x.b2 k).length c ∧ iv = .int .i64 (k : Int) ∧ Hid (Lb w X x wr a (x.b2 k))) (fun _ iv _ => x.ws.xs.length - (intOf iv).toNat)
 case atStart => exact ⟨0, a7, c7, by omega, rfl, rfl, HL0⟩
 case round =>
  clear HL0
  obtain ⟨k, a, c, hk, rfl, rfl, HL⟩ := hrel
  obtain ⟨hrow, hB, hr, hXs⟩ := HL.out
  have p := st_parts xo hr
  by_cases hlt : k < x.ws.xs.length
  ·have k1 : (k : Int) < x.ws.xs.length := by omega
   obtain ⟨b, off, hab, hb, hre⟩ := RowsAt.elem (xa.ws.below hB) k hlt
   have hre : wr.rangeAt b (off + k * 2) (Wd.cells x.ws.xs[k]) := hre
   have oky := okw _ (List.getElem_mem hlt)
   have HS := hide (x.b2_succ k hlt)
   have hl2 := l2 k
   have hl2' := l2 (k + 1)
   obtain ⟨y, hy⟩ : ∃ y, Hid (x.ws.xs[k] = y) := ⟨_, hide rfl⟩
   rw [hy.out] at hre oky HS
   clear hy
   have hiy : (Tryz.prog.info? 79).map (·.size) = some y.cells.length := iszW
   have hpw := p.ws
   unfold Sl.val at hpw
   rw [hab] at hpw
   have cy : Calls Tryz.prog 99 #[.slice a (x.b2 k).length c, .agg y.cells.toArray] wr fun e w' => ∃ v, e = .returned v ∧ Mine w' wr.heap.size v (x.b2 k ++ y.bytes) ∧ Below wr.heap.size wr w' := cw a c (x.b2 k) y wr hrow (by omega) oky
   rw [← HS.out] at cy
   obtain ⟨wl, hwl⟩ : ∃ n, x.ws.xs.length = n := ⟨_, rfl⟩
   rw [hwl] at hpw
   go_upto_region 5 with fail
   try simp only [Act.put]
   refine pl_begin ?_
   refine pl_t 25 (?_) (by rfl) ?_ rfl ?_
   rotate_left
   ·go_simp
    try with_reducible rfl
   simp only [nz]
   refine pl_t 26 (?_) (by rfl) ?_ rfl ?_
   rotate_left
   ·go_simp
    try with_reducible rfl
   simp only [nz]
   refine pl_t 27 (.slice (some ⟨b, off, none⟩) wl x.ws.cap) (by rfl) (pl_one rfl rfl hpw Tryz.underlying33 rfl) rfl ?_
   simp only [nz]
   refine pl_t 28 (?_) (by rfl) ?_ rfl ?_
   rotate_left
   ·go_simp
    try with_reducible rfl
   simp only [nz]
   refine pl_t 29 (.bool true) (by rfl) (by rw [hwl] at k1; go_simp) rfl ?_
   simp only [nz]
   refine pl_nil ?_
   rw [hwl] at k1
   go_upto_region 7 with fail
   try simp only [Act.put]
   refine pl_begin ?_
   refine pl_t 32 (?_) (by rfl) ?_ rfl ?_
   rotate_left
   ·go_simp
    try with_reducible rfl
   simp only [nz]
   refine pl_t 33 (?_) (by rfl) ?_ rfl ?_
   rotate_left
   ·go_simp
    try with_reducible rfl
   simp only [nz]
   refine pl_t 34 (.slice (some ⟨b, off, none⟩) wl x.ws.cap) (by rfl) (pl_one rfl rfl hpw Tryz.underlying33 rfl) rfl ?_
   simp only [nz]
   refine pl_t 35 (?_) (by rfl) ?_ rfl ?_
   rotate_left
   ·go_simp
    try with_reducible rfl
   simp only [nz]
   refine pl_t 36 (.pointer (some ⟨b, off + k * 2, none⟩)) (by rfl) (by go_simp) rfl ?_
   simp only [nz]
   refine pl_t 37 (.agg y.cells.toArray) (by rfl) (ex_mid rfl rfl hre Tryz.underlying79 rfl hiy) rfl ?_
   simp only [nz]
   refine pl_call (d := some 38) (by rfl) (by go_simp; first | done | exact ⟨rfl, rfl⟩ | with_reducible rfl) rfl ?_
   refine (cy).mono ?_
   rintro _ w7 ⟨v7, rfl, m7, hb7⟩
   obtain ⟨a7, c7, rfl, r7⟩ := mine_row m7 (by omega)
   refine ⟨_, rfl, ?_⟩
   simp only [nz]
   refine pl_t 3 (?_) (by rfl) ?_ rfl ?_
   rotate_left
   ·go_simp
    try with_reducible rfl
   simp only [nz]
   refine pl_nil ?_
   have HL1 : Hid (Lb w X x w7 a7 (x.b2 (k + 1))) := hide ⟨r7, hB.trans (hb7.mono hB.size), range_below hr hb7 hXs, Nat.lt_of_lt_of_le hXs hb7.size⟩
   rw [← hwl] at k1
   clear HL hrow hB hr hXs p hab hb hre oky HS hiy hpw cy m7 r7 hb7 hl2 hl2'
   go_wp2_with fail
   go_roundw
   case rel => exact ⟨k + 1, a7, c7, by omega, rfl, by go_num, HL1⟩
   case measure => simp [intOf]; omega
  ·have hkN : k = x.ws.xs.length := by omega
   subst hkN
   have k1 : ¬ ((x.ws.xs.length : Int) < x.ws.xs.length) := by omega
   have hb3e := hide x.b3_zero
   have hl2 := l2 x.ws.xs.length
   have hl30 := l3 0
   have hp5 := p.ws
   have hp6 := p.ps
   unfold Sl.val at hp5 hp6
   obtain ⟨zs2, hz2e⟩ : ∃ z, x.b2 x.ws.xs.length = z := ⟨_, rfl⟩
   have hb3e := hb3e.out
   rw [hz2e] at hb3e hrow hl2
   replace hb3e := hide hb3e
   rw [hz2e]
   go_upto_region 5 with fail
   try simp only [Act.put]
   refine pl_begin ?_
   refine pl_t 25 (?_) (by rfl) ?_ rfl ?_
   rotate_left
   ·go_simp
    try with_reducible rfl
   simp only [nz]
   refine pl_t 26 (?_) (by rfl) ?_ rfl ?_
   rotate_left
   ·go_simp
    try with_reducible rfl
   simp only [nz]
   refine pl_t 27 (.slice x.ws.a x.ws.xs.length x.ws.cap) (by rfl) (pl_one rfl rfl hp5 Tryz.underlying33 rfl) rfl ?_
   simp only [nz]
   refine pl_t 28 (?_) (by rfl) ?_ rfl ?_
   rotate_left
   ·go_simp
    try with_reducible rfl
   simp only [nz]
   refine pl_t 29 (.bool false) (by rfl) (by go_simp) rfl ?_
   simp only [nz]
   refine pl_nil ?_
   go_upto_region 8 with fail
   try simp only [Act.put]
   refine pl_begin ?_
   refine pl_t 39 (?_) (by rfl) ?_ rfl ?_
   rotate_left
   ·go_simp
    try with_reducible rfl
   simp only [nz]
   refine pl_t 40 (?_) (by rfl) ?_ rfl ?_
   rotate_left
   ·go_simp
    try with_reducible rfl
   simp only [nz]
   refine pl_t 41 (.slice x.ps.a x.ps.xs.length x.ps.cap) (by rfl) (pl_one rfl rfl hp6 Tryz.underlying34 rfl) rfl ?_
   simp only [nz]
   refine pl_t 42 (?_) (by rfl) ?_ rfl ?_
   rotate_left
   ·go_simp
    try with_reducible rfl
   simp only [nz]
   refine pl_call (d := some 43) (by rfl) (by go_simp; first | done | exact ⟨rfl, rfl⟩ | with_reducible rfl) rfl ?_
   refine (cp a c zs2 (x.ps.xs.length : Int) wr hrow (by omega) (by unfold maxLen at mp; omega)).mono ?_
   rintro _ w7 ⟨v7, rfl, m7, hb_w7⟩
   rw [← hb3e.out] at m7
   obtain ⟨a7, c7, rfl, r7⟩ := mine_row m7 (by omega)
   refine ⟨_, rfl, ?_⟩
   simp only [nz]
   refine pl_t 3 (?_) (by rfl) ?_ rfl ?_
   rotate_left
   ·go_simp
    try with_reducible rfl
   simp only [nz]
   refine pl_nil ?_
   have HP0 : Hid (Lb w X x w7 a7 (x.b3 0)) := hide ⟨r7, hB.trans (hb_w7.mono hB.size), range_below hr hb_w7 hXs, Nat.lt_of_lt_of_le hXs hb_w7.size⟩
   clear HL m7 r7 hrow hB hr hXs p hb_w7 hb3e hp5 hp6 hz2e k1 hlt
   go_upto_region 9 with fail
   try simp only [Act.put]
   refine pl_begin ?_
   refine pl_t 5 (?_) (by rfl) ?_ rfl ?_
   rotate_left
   ·go_simp
    try with_reducible rfl
   simp only [nz]
   refine pl_nil ?_
   go_wp2_with fail
   go_loopw [3, 5] (fun bv iv wr => ∃ (k : Nat) (a : Option Addr) (c : Nat), k ≤ x.ps.xs.length ∧ bv = .slice a (x.b3 k).length c ∧ iv = .int .i64 (k : Int) ∧ Hid (Lb w X x wr a (x.b3 k))) (fun _ iv _ => x.ps.xs.length - (intOf iv).toNat)
   case atStart => exact ⟨0, a7, c7, by omega, rfl, rfl, HP0⟩
   case round =>
    clear HP0
    obtain ⟨k, a, c, hk, rfl, rfl, HL⟩ := hrel
    obtain ⟨hrow, hB, hr, hXs⟩ := HL.out
    have p := st_parts xo hr
    have hl2 := l3 k
    have hl2' := l3 (k + 1)
    by_cases hlt : k < x.ps.xs.length
    ·have k1 : (k : Int) < x.ps.xs.length := by omega
     obtain ⟨b, off, hab, hb, hre⟩ := RowsAt.elem (xa.ps.below hB) k hlt
     have hre := hre 0 _ rfl
     have oky : PnOk x.ps.xs[k] := okp _ (List.getElem_mem hlt)
     have HS := hide (x.b3_succ k hlt)
     obtain ⟨y, hy⟩ : ∃ y, Hid (x.ps.xs[k] = y) := ⟨_, hide rfl⟩
     rw [hy.out] at hre oky HS
     clear hy
     have hre : wr.cell? ⟨b, off + k, none⟩ = some (.int .i64 y) := by simpa [PnE] using hre
     have hpw := p.ps
     unfold Sl.val at hpw
     rw [hab] at hpw
     have cy := cp a c (x.b3 k) y wr hrow (by omega) oky.hi
     rw [← HS.out] at cy
     obtain ⟨wl, hwl⟩ : ∃ n, x.ps.xs.length = n := ⟨_, rfl⟩
     rw [hwl] at hpw
     go_upto_region 10 with fail
     try simp only [Act.put]
     refine pl_begin ?_
     refine pl_t 44 (?_) (by rfl) ?_ rfl ?_
     rotate_left
     ·go_simp
      try with_reducible rfl
     simp only [nz]
     refine pl_t 45 (?_) (by rfl) ?_ rfl ?_
     rotate_left
     ·go_simp
      try with_reducible rfl
     simp only [nz]
     refine pl_t 46 (.slice (some ⟨b, off, none⟩) wl x.ps.cap) (by rfl) (pl_one rfl rfl hpw Tryz.underlying34 rfl) rfl ?_
     simp only [nz]
     refine pl_t 47 (?_) (by rfl) ?_ rfl ?_
     rotate_left
     ·go_simp
      try with_reducible rfl
     simp only [nz]
     refine pl_t 48 (.bool true) (by rfl) (by rw [hwl] at k1; go_simp) rfl ?_
     simp only [nz]
     refine pl_nil ?_
     rw [hwl] at k1
     go_upto_region 12 with fail
     try simp only [Act.put]
     refine pl_begin ?_
     refine pl_t 51 (?_) (by rfl) ?_ rfl ?_
     rotate_left
     ·go_simp
      try with_reducible rfl
     simp only [nz]
     refine pl_t 52 (?_) (by rfl) ?_ rfl ?_
     rotate_left
     ·go_simp
      try with_reducible rfl
     simp only [nz]
     refine pl_t 53 (.slice (some ⟨b, off, none⟩) wl x.ps.cap) (by rfl) (pl_one rfl rfl hpw Tryz.underlying34 rfl) rfl ?_
     simp only [nz]
     refine pl_t 54 (?_) (by rfl) ?_ rfl ?_
     rotate_left
     ·go_simp
      try with_reducible rfl
     simp only [nz]
     refine pl_t 55 (.pointer (some ⟨b, off + k, none⟩)) (by rfl) (by go_simp) rfl ?_
     simp only [nz]
     refine pl_t 56 (.int .i64 y) (by rfl) (pl_one rfl rfl hre Tryz.underlying3 rfl) rfl ?_
     simp only [nz]
     refine pl_call (d := some 57) (by rfl) (by go_simp; first | done | exact ⟨rfl, rfl⟩ | with_reducible rfl) rfl ?_
     refine (cy).mono ?_
     rintro _ w7 ⟨v7, rfl, m7, hb7⟩
     obtain ⟨a7, c7, rfl, r7⟩ := mine_row m7 (by omega)
     refine ⟨_, rfl, ?_⟩
     simp only [nz]
     refine pl_t 3 (?_) (by rfl) ?_ rfl ?_
     rotate_left
     ·go_simp
      try with_reducible rfl
     simp only [nz]
     refine pl_nil ?_
     have HL1 : Hid (Lb w X x w7 a7 (x.b3 (k + 1))) := hide ⟨r7, hB.trans (hb7.mono hB.size), range_below hr hb7 hXs, Nat.lt_of_lt_of_le hXs hb7.size⟩
     rw [← hwl] at k1
     clear HL hrow hB hr hXs p hab hb hre oky HS hpw cy m7 r7 hb7 hl2 hl2'
     go_wp2_with fail
     go_roundw
     case rel => exact ⟨k + 1, a7, c7, by omega, rfl, by go_num, HL1⟩
     case measure => simp [intOf]; omega
    ·have hkN : k = x.ps.xs.length := by omega
     subst hkN
     have k1 : ¬ ((x.ps.xs.length : Int) < x.ps.xs.length) := by omega
     have hp6 := p.ps
     unfold Sl.val at hp6
     have hcv := RowAt.str hrow c
     have HB := hide hB
     have hbe : x.b3 x.ps.xs.length = x.bytes := rfl
     rw [hbe] at hcv
     rw [hbe]
     clear HL hrow hB hr hXs p hl2 hl2' hbe
     go_upto_region 10 with fail
     try simp only [Act.put]
     refine pl_begin ?_
     refine pl_t 44 (?_) (by rfl) ?_ rfl ?_
     rotate_left
     ·go_simp
      try with_reducible rfl
     simp only [nz]
     refine pl_t 45 (?_) (by rfl) ?_ rfl ?_
     rotate_left
     ·go_simp
      try with_reducible rfl
     simp only [nz]
     refine pl_t 46 (.slice x.ps.a x.ps.xs.length x.ps.cap) (by rfl) (pl_one rfl rfl hp6 Tryz.underlying34 rfl) rfl ?_
     simp only [nz]
     refine pl_t 47 (?_) (by rfl) ?_ rfl ?_
     rotate_left
     ·go_simp
      try with_reducible rfl
     simp only [nz]
     refine pl_t 48 (.bool false) (by rfl) (by go_simp) rfl ?_
     simp only [nz]
     refine pl_nil ?_
     go_upto_region 13 with fail
     try simp only [Act.put]
     refine pl_begin ?_
     refine pl_t 58 (?_) (by rfl) ?_ rfl ?_
     rotate_left
     ·go_simp
      try with_reducible rfl
     simp only [nz]
     refine pl_t 59 (.string (strOf x.bytes)) (by rfl) (ex_conv rfl rfl hcv) rfl ?_
     simp only [nz]
     refine pl_t 2 (?_) (by rfl) ?_ rfl ?_
     rotate_left
     ·go_simp
      try with_reducible rfl
     simp only [nz]
     refine pl_nil ?_
     clear hp6 hcv
     go_wp2_with fail
     go_ret
     exact ⟨rfl, HB.out⟩
set_option maxRecDepth 100000 in
set_option maxHeartbeats 1000000 in
theorem xsdigest_any (x : Stt) (w : World) (xo : x.ok) (xa : x.At w) (hw : x.ws.xs.length ≤ 100) (hp : x.ps.xs.length ≤ 200) : Calls Tryz.prog 20 #[.agg x.cells.toArray] w fun e w' => e = .returned (.agg (v8 x.dig).toArray) ∧ Below w.heap.size w w' := by
 have hlen := Stt.b3_le xo hw hp (fun y hy => xa.ws.2.1 y hy) (fun z hz => xa.ps.2.1 z hz) x.ps.xs.length
 have hby := Stt.byteM xo (fun y hy => xa.ws.2.1 y hy) (fun z hz => xa.ps.2.1 z hz) hw hp
 obtain ⟨m, hm⟩ : ∃ m, Hid (x.dig = m) := ⟨_, hide rfl⟩
 have hml : m.length = 32 := by rw [← hm.out]; exact sha_length _
 rw [hm.out]
 have HM : Hid (sha (83 :: x.bytes) = m) := hm
 clear hm
 have hz1 : zeros32.length = 32 := by decide
 have hdz : ∀ w : World, (zeroValue 32).run Tryz.prog w = .ok (.agg (v8 zeros32).toArray) w := zeroDg
 obtain ⟨hB0, hr0, hs0⟩ := boxed_new w x.cells 36
 have hix : (Tryz.prog.info? 36).map (·.size) = some x.cells.length := by rw [Stt.len xo]; exact iszSt
 have cb := fun w0 (h0 : x.At w0) => xsbytes_any x w0 xo h0 hw hp
 have hSL : strL (⟨#[83]⟩ ++ strOf x.bytes) = 83 :: x.bytes := by rw [strL_add, strL_strOf hby]
 change x.bytes.length ≤ 5000 at hlen
 have cv := fun w0 => bytes_of (⟨#[83]⟩ ++ strOf x.bytes) (by rw [← strL_length, hSL, List.length_cons]; omega) w0
 rw [hSL] at cv
 have cs := fun a cap w0 (h0 : RowAt w0 a (83 :: x.bytes)) => refSum_any a cap (83 :: x.bytes) w0 h0 (by simp; omega)
 rw [HM.out] at cs
 have hSz : (strOf x.bytes).size ≤ 5000 := by rw [← strL_length, strL_strOf hby]; exact hlen
 obtain ⟨S, hS⟩ : ∃ S, strOf x.bytes = S := ⟨_, rfl⟩
 rw [hS] at hSz
 simp only [hS] at cb cv
 clear hSL hby
 generalize (83 : Int) :: x.bytes = F at *
 obtain ⟨q, hq⟩ : ∃ q, Hid (x.cells = q) := ⟨_, hide rfl⟩
 simp only [hq.out] at hB0 hr0 hs0 hix cb ⊢
 go_enter Tryz.func20, Tryz.ntmps20
 go_upto_region 0 with fail
 try simp only [Act.put]
 refine pl_begin ?_
 refine pl_run (d := some 1) (v := .pointer (some ⟨w.heap.size, 0, none⟩)) (w' := w.alloc (.cells q.toArray 36)) (by rfl) (ex_boxR rfl rfl) rfl ?_
 simp only [nz]
 obtain ⟨W0, hW0⟩ : ∃ W, w.alloc (.cells q.toArray 36) = W := ⟨_, rfl⟩
 rw [hW0] at hB0 hr0 hs0 ⊢
 clear hW0
 obtain ⟨hB1, -, hs1⟩ := boxed_new W0 (v8 zeros32) 32
 have ht1 := there_newN W0 (v8 zeros32).toArray 32 (n := 32) (by simp [v8_length, hz1])
 refine pl_run (d := some 2) (v := .pointer (some ⟨W0.heap.size, 0, none⟩)) (w' := W0.alloc (.cells (v8 zeros32).toArray 32)) (by rfl) (ex_alloc rfl (hdz _)) rfl ?_
 simp only [nz]
 refine pl_nil ?_
 obtain ⟨W1, hW1⟩ : ∃ W, W0.alloc (.cells (v8 zeros32).toArray 32) = W := ⟨_, rfl⟩
 rw [hW1] at hB1 hs1 ht1 ⊢
 clear hW1
 have hr1 := range_below hr0 hB1 hs0
 have B1 := hB0.trans (hB1.mono (by omega))
 have xa1 := xa.below B1
 obtain ⟨A, hA⟩ : ∃ X, W0.heap.size = X := ⟨_, rfl⟩
 obtain ⟨C, hC⟩ : ∃ X, w.heap.size = X := ⟨_, rfl⟩
 rw [hA] at hs1 ht1 hs0
 rw [hC] at hs0 hr1
 have hwA : w.heap.size ≤ A := by omega
 simp only [hA, hC]
 clear hr0 hB0 hB1 hA hdz
 go_upto_region 1 with fail
 try simp only [Act.put]
 refine pl_begin ?_
 refine pl_t 3 (.agg q.toArray) (by rfl) (ex_mid rfl rfl hr1 Tryz.underlying36 rfl hix) rfl ?_
 simp only [nz]
 refine pl_call (d := some 4) (by rfl) (by go_simp; first | done | exact ⟨rfl, rfl⟩ | with_reducible rfl) rfl ?_
 refine (cb W1 xa1).mono ?_
 rintro _ w2 ⟨rfl, hb2⟩
 refine ⟨_, rfl, ?_⟩
 simp only [nz]
 refine pl_t 5 (.string (⟨#[83]⟩ ++ S)) (by rfl) (by go_simp; omega) rfl ?_
 simp only [nz]
 obtain ⟨c6, w3, hcv, r3, hb3⟩ := cv w2
 refine pl_run (d := some 6) (v := .slice (some ⟨w2.heap.size, 0, none⟩) F.length c6) (w' := w3) (by rfl) (ex_conv rfl rfl hcv) rfl ?_
 simp only [nz]
 refine pl_call (d := some 7) (by rfl) (by go_simp; first | done | exact ⟨rfl, rfl⟩ | with_reducible rfl) rfl ?_
 refine (cs _ c6 w3 r3).mono ?_
 rintro _ w5 ⟨rfl, hb5⟩
 refine ⟨_, rfl, ?_⟩
 simp only [nz]
 have ht5 := there_below (there_below (there_below ht1 hb2 hs1) hb3 (by have := hb2.size; omega)) hb5 (by have := hb2.size; have := hb3.size; omega)
 have B5 := ((B1.trans (hb2.mono B1.size)).trans (hb3.mono (Nat.le_trans B1.size hb2.size))).trans (hb5.mono (Nat.le_trans B1.size (Nat.le_trans hb2.size hb3.size)))
 have hth : w5.there A 0 (v8 m).length := by rw [v8_length, hml]; exact ht5
 have hid : (Tryz.prog.info? 32).map (·.size) = some (v8 m).length := by rw [v8_length, hml]; exact iszDg
 refine pl_store (w' := w5.setCells A 0 (v8 m)) (by rfl) (ex_put (cs := (v8 m).toArray) rfl rfl rfl (by simpa using hth) (by simpa using hid) (all_one (v8_one m))) rfl ?_
 refine pl_nil ?_
 have hrs := run_loadVar_mid (P := Tryz.prog) (w5.setCells A 0 (v8 m)) A 0 32 (v8 m) _ (World.rangeAt_setCells_same w5 A 0 (v8 m) hth) Tryz.underlying32 rfl hid
 have HB := hide (below_sets hwA (v8 m) 0 _ B5)
 clear cs cv hcv ht1 ht5 hth B1 B5 hb2 hb3 hb5 hr1 xa1 r3 cb
 go_wp2_with fail
 refine bodyPost_ret (results_cell rfl _ _ _ rfl hrs) rfl ?_
 exact ⟨rfl, HB.out⟩
end Go.Proofs.YtnfijfnnpbenfaaGreatDoor
namespace Go.Proofs.YtnfijfnnpbenfaaGreatDoor.Qs
open Go.RowKit
open Sha
end Go.Proofs.YtnfijfnnpbenfaaGreatDoor.Qs
namespace Go.Proofs.YtnfijfnnpbenfaaGreatDoor.Sha
open Go.Proofs.YtnfijfnnpbenfaaGreatDoor.Qs
open Go.RowKit
open Sha
def macKey (zs : List Int) : List Int := if 64 < zs.length then sha zs else zs
def macBlock (zs : List Int) : List Int := macKey zs ++ List.replicate (64 - (macKey zs).length) 0
end Go.Proofs.YtnfijfnnpbenfaaGreatDoor.Sha
namespace Go.Proofs.YtnfijfnnpbenfaaGreatDoor.Qs
open Go.RowKit
open Sha
theorem isz52 : (Tryz.prog.info? 144).map (·.size) = some 64 := by kernel_rfl
theorem macKey_len (zs : List Int) : (macKey zs).length ≤ 64 := by
 unfold macKey
 split
 ·rw [sha_length]; omega
 ·omega
theorem macBlock_len (zs : List Int) : (macBlock zs).length = 64 := by
 have := macKey_len zs
 simp [macBlock]; omega
theorem new64 (w : World) : (w.alloc (.cells (Array.replicate 64 (.int .u8 0)) 144)).rangeAt w.heap.size 0 (v8 (List.replicate 64 (0 : Int))) ∧ (w.alloc (.cells (Array.replicate 64 (.int .u8 0)) 144)).there w.heap.size 0 64 := new_bytes w 64 144
theorem copy_head (w : World) (B : Nat) (a : Option Addr) (cap : Nat) (ks : List Int) (hl : ks.length ≤ 64) (h : RowAt w a ks) (hT : w.there B 0 64) (hz : w.rangeAt B 0 (v8 (List.replicate 64 (0 : Int)))) :
  ∃ w', (Builtin.copy_ #[57, 57] 3 #[.slice (some ⟨B, 0, none⟩) 64 64, .slice a ks.length cap]).run Tryz.prog w = .ok (goInt ks.length) w' ∧ w'.rangeAt B 0 (v8 (ks ++ List.replicate (64 - ks.length) (0 : Int))) ∧ w' = w.setCells B 0 (v8 ks) := by
 rcases h.2.2 with rfl | ⟨b, off, rfl, hb, hr⟩
 ·exact ⟨w, run_copy_none (P := Tryz.prog) w 57 57 3 5 _ a 64 64 0 cap Tryz.underlying57 isz8 rfl, by simpa using hz, rfl⟩
 ·refine ⟨w.setCells B 0 (v8 ks), ?_, ?_, rfl⟩
  ·have := run_copy_cells (P := Tryz.prog) w 57 57 3 5 B 0 64 64 ⟨b, off, none⟩ ks.length cap (v8 ks) Tryz.underlying57 isz8 (by rw [v8_length]; exact (Nat.min_eq_left hl).symm) (fun j v hv => by rw [Addr.add_mid]; exact hr j v hv) (fun j hj => by rw [v8_length] at hj; exact (hT j (by omega)).1) (fun j hj => by rw [v8_length] at hj; exact (hT j (by omega)).2) (v8_one _)
   rw [v8_length] at this
   exact this
  ·have e0 : List.replicate 64 (0 : Int) = [] ++ List.replicate ks.length (0 : Int) ++ List.replicate (64 - ks.length) (0 : Int) := by
    rw [List.nil_append, List.replicate_append_replicate]; congr 1; omega
   rw [e0, v8_append, v8_append] at hz
   have := range_fill (vs := v8 ks) hz (by simp) (by
    rw [v8_length]
    have := there_part hT 0 ks.length (by omega)
    simpa [v8] using this)
   rw [← v8_append, ← v8_append] at this
   simpa [v8] using this
set_option maxRecDepth 20000 in
set_option maxHeartbeats 1000000 in
theorem blockOf_any (a : Option Addr) (cap : Nat) (zs : List Int) (w : World) (hG : Glob w) (h : RowAt w a zs) (hc : zs.length ≤ cap) (hm : cap ≤ maxLen) (hl : zs.length ≤ 1000000) :
   Calls Tryz.prog 84 #[.slice a zs.length cap] w fun e w' => e = .returned (.agg (v8 (macBlock zs)).toArray) ∧ Below w.heap.size w w' := by
  go_enter Tryz.func84, Tryz.ntmps84
  go_upto_region 2 with fail
  go_name_world w1 hw1
  obtain ⟨hB1, hZ, hT, hT0, hz1⟩ : Below w.heap.size w w1 ∧ w1.rangeAt (w.heap.size + 1) 0 (v8 (List.replicate 64 (0 : Int))) ∧ w1.there (w.heap.size + 1) 0 64 ∧ w1.there w.heap.size 0 64 ∧ w1.heap.size = w.heap.size + 2 := by
    have q := new64 (w.alloc (.cells (Array.replicate 64 (.int .u8 0)) 144))
    have q2 := World.there_alloc (new64 w).2 (.cells (Array.replicate 64 (.int .u8 0)) 144)
    have es : (w.alloc (.cells (Array.replicate 64 (.int .u8 0)) 144)).heap.size = w.heap.size + 1 := by simp
    have hB : Below w.heap.size w ((w.alloc (.cells (Array.replicate 64 (.int .u8 0)) 144)).alloc (.cells (Array.replicate 64 (.int .u8 0)) 144)) := ((Below.refl _ _).alloc (Nat.le_refl _) _).alloc (by simp) _
    have hs : ((w.alloc (.cells (Array.replicate 64 (.int .u8 0)) 144)).alloc (.cells (Array.replicate 64 (.int .u8 0)) 144)).heap.size = w.heap.size + 2 := by simp
    rw [es] at q
    rw [show (w.alloc (.cells (Array.replicate 64 (.int .u8 0)) 144)).alloc (.cells (Array.replicate 64 (.int .u8 0)) 144) = w1 from hw1] at q q2 hB hs
    exact ⟨hB, q.1, q.2, q2, hs⟩
  clear hw1
  have HZ1 : Hid (w1.heap.size = w.heap.size + 2) := hz1
  clear hz1
  have fin : ∀ (w3 : World) (ks : List Int), ks = macKey zs → w3.rangeAt (w.heap.size + 1) 0 (v8 (ks ++ List.replicate (64 - ks.length) (0 : Int))) → w3.rangeAt (w.heap.size + 1) 0 (v8 (macBlock zs)) := fun w3 ks e hr => by rw [e] at hr; exact hr
  by_cases hlt : 64 < zs.length
  · have hltI : (64 : Int) < zs.length := by omega
    have ek : macKey zs = sha zs := by unfold macKey; rw [if_pos hlt]
    have hat : (⟨a, cap, zs⟩ : Part).at w1 := Part.at.below (w := w) ⟨h, hc, hm⟩ hB1
    have hP := one_part w1 #[.slice a zs.length cap] ⟨a, cap, zs⟩ hat rfl
    have hBp : Below w.heap.size w (w1.alloc (.cells #[.slice a zs.length cap] 57)) := hB1.alloc hB1.size _
    have hcz : cat [(⟨a, cap, zs⟩ : Part)] = zs := by simp [cat]
    have c1 := sum_any _ 1 _ _ (hG.below hBp) hP (by rw [hcz]; omega)
    rw [hcz] at c1
    simp only [List.length_cons, List.length_nil, Nat.zero_add] at c1
    have hBq : Below w1.heap.size w1 (w1.alloc (.cells #[.slice a zs.length cap] 57)) := (Below.refl _ _).alloc (Nat.le_refl _) _
    obtain ⟨d, hd⟩ : ∃ d, Hid (sha zs = d) := ⟨_, rfl⟩
    have hdl : d.length = 32 := by rw [← hd.out]; exact sha_length zs
    have hdo : ∀ z ∈ d, 0 ≤ z ∧ z < 256 := by rw [← hd.out]; exact sha_ok zs
    rw [hd.out] at c1 ek
    clear hP hat hcz
    go_wp2_with fail
    refine c1.mono ?_
    rintro e w2 ⟨rfl, hw2⟩
    have hw2' : Below w1.heap.size w1 w2 := hBq.trans (hw2.mono hBq.size)
    clear c1 hw2 hBq hBp
    have hd1 : (v8 d).length = 32 := by rw [v8_length, hdl]
    have F := fresh_store w2 (Array.replicate 32 (.int .u8 0)) 32 (v8 d) (by rw [hd1]; rfl)
    have hi24 : (Tryz.prog.info? 32).map (·.size) = some (v8 d).toArray.size := by rw [List.size_toArray, hd1]; exact isz24
    have hN24 : (w2.alloc (.cells (Array.replicate 32 (.int .u8 0)) 32)).there w2.heap.size 0 (v8 d).toArray.size := by
      have e : (v8 d).toArray.size = 32 := by rw [List.size_toArray, hd1]
      rw [e]; exact (new_bytes w2 32 32).2
    have h1d := all_oneCell_toArray (v8_one d)
    go_upto_region 4 with (refine wpList_store_mid (op := ⟨none, .store 32 (.tmp 4) (.tmp 10), _, _, _, none⟩) rfl 32 _ _ rfl _ _ (v8 d).toArray rfl rfl hN24 hi24 h1d ?_)
    go_name_world w4 hw4
    rw [show (w2.alloc (.cells (Array.replicate 32 (.int .u8 0)) 32)).setCells w2.heap.size 0 (v8 d) = w4 from hw4] at F
    obtain ⟨hRd, hBd, hzd, _⟩ := F
    have hw4' : Below w1.heap.size w1 w4 := hw2'.trans (hBd.mono hw2'.size)
    have hB4 : Below w.heap.size w w4 := hB1.trans (hw4'.mono hB1.size)
    have hZ4 := range_below hZ hw4' (by have := HZ1.out; omega)
    have hT4 := there_below hT hw4' (by have := HZ1.out; omega)
    have hT04 := there_below hT0 hw4' (by have := HZ1.out; omega)
    have hrow : RowAt w4 (some ⟨w2.heap.size, 0, none⟩) d := ⟨by rw [hdl]; unfold maxLen; omega, hdo, Or.inr ⟨_, _, rfl, by omega, hRd⟩⟩
    obtain ⟨w3, hcp, hr3, hw3⟩ := copy_head w4 (w.heap.size + 1) (some ⟨w2.heap.size, 0, none⟩) 32 d (by omega) hrow hT4 hZ4
    have hsl := slice_all (w := w4) Tryz.underlying144 isz8 (w.heap.size + 1) 0 (by omega)
    have hsl2 := slice_all (w := w4) Tryz.underlying32 isz8 w2.heap.size 0 (by omega)
    have hR3 := fin w3 d ek.symm hr3
    have hB3 : Below w.heap.size w w3 := by rw [hw3]; exact below_sets (Nat.le_succ _) _ _ _ hB4
    have hT3 : w3.there w.heap.size 0 64 := by rw [hw3]; exact World.there_setCells hT04 _ _ _
    have hml := macBlock_len zs
    rw [hdl] at hcp
    clear fin hr3 ek hw4 hN24 hi24 h1d hd1 hZ hT hT0 hB1
    simp only [Act.put]
    go_upto_region 6 with fail
    rw [← hw3]
    obtain ⟨cs, hcs⟩ : ∃ cs, Hid (v8 (macBlock zs) = cs) := ⟨_, rfl⟩
    have hcl : cs.length = 64 := by rw [← hcs.out, v8_length, hml]
    have h1c : ∀ v ∈ cs, v.oneCell' = true := by rw [← hcs.out]; exact v8_one _
    rw [hcs.out] at hR3
    have hi : (Tryz.prog.info? 144).map (·.size) = some cs.length := by rw [hcl]; exact isz52
    clear hw3
    refine wp_region_list ?_
    refine wpList_load_mid rfl 144 _ rfl _ _ rfl cs _ hR3 Tryz.underlying144 rfl hi ?_
    refine wpList_store_mid rfl 144 _ _ rfl _ _ cs.toArray rfl rfl (by simpa [hcl] using hT3) (by simpa using hi) (all_oneCell_toArray h1c) ?_
    have hRr := World.rangeAt_setCells_same w3 w.heap.size 0 cs (by rw [hcl]; exact hT3)
    have hBl := below_sets (Nat.le_refl w.heap.size) cs 0 w3 hB3
    generalize w3.setCells w.heap.size 0 cs = wx at *
    have hrs := run_loadVar_mid (P := Tryz.prog) wx w.heap.size 0 144 cs _ hRr Tryz.underlying144 rfl hi
    clear hi
    go_wp2_with fail
    refine bodyPost_ret (v := .agg cs.toArray) (by simp [results, Tryz.results84, Act.put, asAddr, hrs]) rfl ⟨by rw [hcs.out], hBl⟩
  · have hltI : ¬ (64 : Int) < zs.length := by omega
    have ek : macKey zs = zs := by unfold macKey; rw [if_neg hlt]
    obtain ⟨w3, hcp, hr3, hw3⟩ := copy_head w1 (w.heap.size + 1) a cap zs (by omega) (h.below hB1) hT hZ
    have hsl := slice_all (w := w1) Tryz.underlying144 isz8 (w.heap.size + 1) 0 (by omega)
    have hR3 := fin w3 zs ek.symm hr3
    have hB3 : Below w.heap.size w w3 := by rw [hw3]; exact below_sets (Nat.le_succ _) _ _ _ hB1
    have hT3 : w3.there w.heap.size 0 64 := by rw [hw3]; exact World.there_setCells hT0 _ _ _
    have hml := macBlock_len zs
    clear fin hr3 ek
    go_upto_region 6 with fail
    rw [← hw3]
    obtain ⟨cs, hcs⟩ : ∃ cs, Hid (v8 (macBlock zs) = cs) := ⟨_, rfl⟩
    have hcl : cs.length = 64 := by rw [← hcs.out, v8_length, hml]
    have h1c : ∀ v ∈ cs, v.oneCell' = true := by rw [← hcs.out]; exact v8_one _
    rw [hcs.out] at hR3
    have hi : (Tryz.prog.info? 144).map (·.size) = some cs.length := by rw [hcl]; exact isz52
    clear hw3
    refine wp_region_list ?_
    refine wpList_load_mid rfl 144 _ rfl _ _ rfl cs _ hR3 Tryz.underlying144 rfl hi ?_
    refine wpList_store_mid rfl 144 _ _ rfl _ _ cs.toArray rfl rfl (by simpa [hcl] using hT3) (by simpa using hi) (all_oneCell_toArray h1c) ?_
    have hRr := World.rangeAt_setCells_same w3 w.heap.size 0 cs (by rw [hcl]; exact hT3)
    have hBl := below_sets (Nat.le_refl w.heap.size) cs 0 w3 hB3
    generalize w3.setCells w.heap.size 0 cs = wx at *
    have hrs := run_loadVar_mid (P := Tryz.prog) wx w.heap.size 0 144 cs _ hRr Tryz.underlying144 rfl hi
    clear hi
    go_wp2_with fail
    refine bodyPost_ret (v := .agg cs.toArray) (by simp [results, Tryz.results84, asAddr, hrs]) rfl ⟨by rw [hcs.out], hBl⟩
def xorB (x z : Int) : Int := bits .xor .u8 z x
theorem xorB_ok (x z : Int) : 0 ≤ xorB x z ∧ xorB x z < 256 := by
 unfold xorB
 show 0 ≤ IntKind.u8.wrap _ ∧ IntKind.u8.wrap _ < 256
 rw [IntKind.wrap_u8]; omega
def xorL (x : Int) (zs : List Int) : List Int := zs.map (xorB x)
theorem xorL_ok (x : Int) (zs : List Int) : ∀ z ∈ xorL x zs, 0 ≤ z ∧ z < 256 := fun z hz => by
 obtain ⟨u, _, rfl⟩ := List.mem_map.1 hz; exact xorB_ok x u
theorem xorL_len (x : Int) (zs : List Int) : (xorL x zs).length = zs.length := by simp [xorL]
theorem parts_src {w : World} {a : Option Addr} {ps : List Part} (h : PartsAt w a ps) (cap : Nat) : Src Tryz.prog 1 141 (.slice a ps.length cap) ps.length (ps.map Part.val) w := by
 have one : ∀ u ∈ ps.map Part.val, u.oneCell' = true := fun u hu => by
  obtain ⟨p, _, rfl⟩ := List.mem_map.1 hu; rfl
 cases a with
 | none =>
  have : ps = [] := by
   rcases h.2.2 with q | ⟨b, off, hx, _⟩
   ·exact q
   ·cases hx
  subst this
  exact Src.ofNil w Tryz.underlying141 cap
 | some y =>
  refine Src.ofSlice w Tryz.underlying141 y ps.length cap _ (by simp) (fun j u hu => ?_) one
  rcases h.2.2 with rfl | ⟨b, off, hx, _, hr⟩
  ·simp at hu
  ·cases hx
   rw [Addr.add_mid]
   exact hr j u hu
set_option maxRecDepth 20000 in
set_option maxHeartbeats 1000000 in
theorem macC_any (x : Int) (K : Nat) (kb : List Int) (a : Option Addr) (cap : Nat) (ps : List Part) (w : World) (hG : Glob w) (hkl : kb.length = 64) (hK : w.rangeAt K 0 (v8 kb)) (hKs : K < w.heap.size) (h : PartsAt w a ps) (hn : (cat ps).length < 1000000) (hpl : ps.length ≤ 100000) :
   Calls Tryz.prog 85 #[.int .u8 x, .slice a ps.length cap, .pointer (some ⟨K, 0, none⟩)] w fun e w' => e = .returned (.agg (v8 (sha (xorL x kb ++ cat ps))).toArray) ∧ Below w.heap.size w w' := by
  have hBr : Below w.heap.size w (w.alloc (.cells (Array.replicate 32 (.int .u8 0)) 32)) := (Below.refl _ _).alloc (Nat.le_refl _) _
  have hT0 := (new_bytes w 32 32).2
  have hK1 := range_below hK hBr hKs
  have hvl : (v8 kb).length = 64 := by rw [v8_length, hkl]
  have hi : (Tryz.prog.info? 144).map (·.size) = some (v8 kb).length := by rw [hvl]; exact isz52
  have hi' : (Tryz.prog.info? 144).map (·.size) = some (v8 kb).toArray.size := by rw [List.size_toArray]; exact hi
  have hN := (new64 (w.alloc (.cells (Array.replicate 32 (.int .u8 0)) 32))).2
  have hN' : ((w.alloc (.cells (Array.replicate 32 (.int .u8 0)) 32)).alloc (.cells (Array.replicate 64 (.int .u8 0)) 144)).there (w.heap.size + 1) 0 (v8 kb).toArray.size := by
    have e : (v8 kb).toArray.size = 64 := by rw [List.size_toArray, hvl]
    rw [e]
    have es : (w.alloc (.cells (Array.replicate 32 (.int .u8 0)) 32)).heap.size = w.heap.size + 1 := by simp
    rw [es] at hN
    exact hN
  have h1c := all_oneCell_toArray (v8_one kb)
  have F := fresh_store (w.alloc (.cells (Array.replicate 32 (.int .u8 0)) 32)) (Array.replicate 64 (.int .u8 0)) 144 (v8 kb) (by rw [hvl]; rfl)
  have es : (w.alloc (.cells (Array.replicate 32 (.int .u8 0)) 32)).heap.size = w.heap.size + 1 := by simp
  rw [es] at F
  clear hN
  go_enter Tryz.func85, Tryz.ntmps85
  go_upto_region 2 with (first | refine wpList_load_mid (op := ⟨some 9, .load 144 (.tmp 2), _, _, _, none⟩) rfl 144 _ rfl _ _ rfl (v8 kb) _ hK1 Tryz.underlying144 rfl hi ?_ | refine wpList_store_mid (op := ⟨none, .store 144 (.tmp 6) (.tmp 9), _, _, _, none⟩) rfl 144 _ _ rfl _ _ (v8 kb).toArray rfl rfl hN' hi' h1c ?_)
  go_name_world w1 hw1
  rw [show ((w.alloc (.cells (Array.replicate 32 (.int .u8 0)) 32)).alloc (.cells (Array.replicate 64 (.int .u8 0)) 144)).setCells (w.heap.size + 1) 0 (v8 kb) = w1 from hw1] at F
  obtain ⟨hR1, hB1', hz1, hT1⟩ := F
  have hB1 : Below w.heap.size w w1 := hBr.trans (hB1'.mono (by omega))
  have hT01 := there_below hT0 hB1' (by omega)
  have hT1' : w1.there (w.heap.size + 1) 0 64 := by simpa using hT1
  clear hw1 hB1' hT1 hN' hi hi' h1c hvl hK1 hT0 hBr es hz1
  simp only [Act.put]
  go_wp2_with fail
  go_loopw [10] (fun i wr => ∃ k : Nat, k ≤ 64 ∧ i = .int .i64 (k : Int) ∧ wr.rangeAt (w.heap.size + 1) 0 (v8 (xorL x (kb.take k) ++ kb.drop k)) ∧ wr.there (w.heap.size + 1) 0 64 ∧ wr.there w.heap.size 0 32 ∧ Below w.heap.size w wr ∧ w.heap.size + 1 < wr.heap.size) (fun i _ => 64 - (intOf i).toNat)
  case atStart => exact ⟨0, by omega, rfl, by simpa [xorL] using hR1, hT1', hT01, hB1, World.block_lt_of_cell? w1 _ (hR1 0 (.int .u8 (kb.getD 0 0)) (by
      have h0 : 0 < kb.length := by omega
      simp [v8, List.getElem?_eq_getElem h0]))⟩
  case round =>
    clear hR1 hT1' hT01 hB1
    obtain ⟨k, hk, rfl, hR, hT, hT0, hB, hsz⟩ := hrel
    by_cases hlt : k < 64
    · have hlk : k < kb.length := by omega
      obtain ⟨z, hz⟩ : ∃ z, Hid (kb[k] = z) := ⟨kb[k], (rfl : kb[k] = kb[k])⟩
      have hcell : wr.cell? ⟨w.heap.size + 1, k, none⟩ = some (.int .u8 z) := by
        have := hR k (.int .u8 z) (by
          unfold v8
          rw [List.map_append, List.getElem?_append_right (by rw [List.length_map, xorL_len, List.length_take]; omega), List.length_map, xorL_len, List.length_take_of_le (by omega), Nat.sub_self, List.getElem?_map, List.getElem?_drop, Nat.add_zero, List.getElem?_eq_getElem hlk, hz.out]
          rfl)
        rwa [Nat.zero_add] at this
      have hf := (hT k (by omega)).2
      rw [Nat.zero_add] at hf
      have HE : Hid (bits .xor .u8 z x = xorB x z) := rfl
      go_wp2_with fail
      rw [HE.out]
      go_roundw
      case rel =>
        refine ⟨k + 1, by omega, by go_num, ?_, there_set hT _ _, there_set hT0 _ _, hB.setCell (p := ⟨w.heap.size + 1, k, none⟩) (by simp) _, by simpa using hsz⟩
        have := range_set hR k (.int .u8 (xorB x z))
        rw [Nat.zero_add, v8_set] at this
        have e1 : (xorL x (kb.take k) ++ kb.drop k).set k (xorB x z) = xorL x (kb.take (k + 1)) ++ kb.drop (k + 1) := by
          have hl : (xorL x (kb.take k)).length = k := by rw [xorL_len, List.length_take_of_le (by omega)]
          rw [List.set_append_right _ _ (by omega), hl, Nat.sub_self, List.drop_eq_getElem_cons hlk, hz.out, List.set_cons_zero, List.take_succ_eq_append_getElem hlk, hz.out]
          simp [xorL]
        rw [e1] at this
        exact this
      case measure => simp [intOf]; omega
    · have hk64 : k = 64 := by omega
      have hkI : ¬ (k : Int) < 64 := by omega
      have hR64 : wr.rangeAt (w.heap.size + 1) 0 (v8 (xorL x kb)) := by
        rw [List.take_of_length_le (by omega), List.drop_eq_nil_of_le (by omega), List.append_nil] at hR
        exact hR
      clear hR hk64
      have hPw := h.below hB
      obtain ⟨i0, hi, hz0, hz1, hz2⟩ := info_parts infoP
      obtain ⟨w3, hmk, hown3, hgr3⟩ := run_makeSlice_owned (P := Tryz.prog) wr (w.heap.size + 2) 141 57 i0 (.slice none 0 0) 1 Tryz.underlying141 hi hz0 hz1 .i64 .i64 (1 + ps.length) (by omega) (by rw [hz2]; omega) (by unfold maxLen; omega) (by omega)
      have hmk' : (Instr.makeSlice 141 (.int .i64 0) (.int .i64 (1 + (ps.length : Int)))).run Tryz.prog wr = .ok (.slice (some ⟨wr.heap.size, 0, none⟩) 0 (1 + ps.length)) w3 := by
        have := hmk
        rw [show ((1 + ps.length : Nat) : Int) = 1 + (ps.length : Int) by omega] at this
        exact this
      have hw3 : Below (w.heap.size + 2) wr w3 := (Below.refl _ _).grown hgr3 (by omega) (fun _ h => by cases h)
      have hs3 : wr.heap.size ≤ w3.heap.size := hw3.size
      clear hmk hgr3
      obtain ⟨c0, hc0⟩ : ∃ c0, Hid (1 + ps.length = c0) := ⟨_, rfl⟩
      have hown4 := owns_below hown3 ((Below.refl w3.heap.size w3).alloc (Nat.le_refl _) (.cells #[.slice (some ⟨w.heap.size + 1, 0, none⟩) 64 64] 57))
      have hB4 : Below (w.heap.size + 2) wr (w3.alloc (.cells #[.slice (some ⟨w.heap.size + 1, 0, none⟩) 64 64] 57)) := hw3.alloc (by omega) _
      have hxl : (xorL x kb).length = 64 := by rw [xorL_len, hkl]
      have hsrc : Src Tryz.prog 1 141 (.slice (some ⟨w3.heap.size, 0, none⟩) 1 1) 1 [.slice (some ⟨w.heap.size + 1, 0, none⟩) 64 64] (w3.alloc (.cells #[.slice (some ⟨w.heap.size + 1, 0, none⟩) 64 64] 57)) := by
        have := one_src w3 ⟨some ⟨w.heap.size + 1, 0, none⟩, 64, xorL x kb⟩
        unfold Part.val at this
        rw [hxl] at this
        exact this
      have hsl := slice_all (w := w3) Tryz.underlying144 isz8 (w.heap.size + 1) 0 (by omega)
      go_wp2_with (at_builtin; refine wpList_append_own_src _ rfl _ _ 141 141 rfl (w.heap.size + 2) 57 i0 (.slice none 0 0) 1 24 Tryz.underlying141 hi hz0 hz1 hz2 rfl _ 0 _ rfl hown4 _ 1 _ rfl hsrc ?c1 ?c2 ?c3 ?_)
      case c1 => unfold maxLen; omega
      case c3 => omega
      intro v5 w5 hown5 hgr5
      have hB5 := below_grown hB4 (by simp; omega) hown4 hgr5
      have hown5' : w5.ownsRow (w.heap.size + 2) 57 1 v5 1 [.slice (some ⟨w.heap.size + 1, 0, none⟩) 64 64] := by simpa using hown5
      have hs5 : wr.heap.size ≤ w5.heap.size := hB5.size
      have hBw5 : Below w.heap.size w w5 := hB.trans (hB5.mono (by omega))
      have hP5 := h.below hBw5
      have hsrc5 := parts_src hP5 cap
      clear hown4 hB4 hsrc hgr5 hown3 hmk' hsl hw3 hown5
      obtain ⟨va, vc, rfl⟩ : ∃ a c, v5 = .slice a 1 c := by
        rcases own_range hown5' with ⟨_, h0, _⟩ | ⟨g, c, e, _⟩
        · omega
        · exact ⟨_, c, e⟩
      go_wp2_with (at_builtin; refine wpList_append_own_src _ rfl _ _ 141 141 rfl (w.heap.size + 2) 57 i0 (.slice none 0 0) 1 24 Tryz.underlying141 hi hz0 hz1 hz2 rfl _ 1 _ rfl hown5' _ ps.length _ rfl hsrc5 ?d1 ?d2 ?d3 ?_)
      case d1 => unfold maxLen; omega
      case d2 => omega
      case d3 => omega
      intro v6 w6 hown6 hgr6
      have hB6 := below_grown hB5 (by omega) hown5' hgr6
      have hBw6 : Below w.heap.size w w6 := hB.trans (hB6.mono (by omega))
      have hs6 : wr.heap.size ≤ w6.heap.size := hB6.size
      have hR6 := range_below hR64 hB6 (by omega)
      have hT6 := there_below hT0 hB6 (by omega)
      have hat : (⟨some ⟨w.heap.size + 1, 0, none⟩, 64, xorL x kb⟩ : Part).at w6 := ⟨⟨by rw [hxl]; unfold maxLen; omega, xorL_ok x kb, Or.inr ⟨_, _, rfl, by omega, hR6⟩⟩, by show (xorL x kb).length ≤ 64; omega, by show 64 ≤ maxLen; unfold maxLen; omega⟩
      have hown7 : w6.ownsRow (w.heap.size + 2) 57 1 v6 ((⟨some ⟨w.heap.size + 1, 0, none⟩, 64, xorL x kb⟩ : Part) :: ps).length (((⟨some ⟨w.heap.size + 1, 0, none⟩, 64, xorL x kb⟩ : Part) :: ps).map Part.val) := by
        have e : ((⟨some ⟨w.heap.size + 1, 0, none⟩, 64, xorL x kb⟩ : Part) :: ps).map Part.val = [.slice (some ⟨w.heap.size + 1, 0, none⟩) 64 64] ++ ps.map Part.val := by
          simp only [List.map_cons, Part.val, hxl]; rfl
        rw [e, List.length_cons, Nat.add_comm ps.length 1]
        exact hown6
      obtain ⟨av, cv, rfl, hPA⟩ := own_parts hown7 (fun p hp => by
        rcases List.mem_cons.1 hp with rfl | hp
        · exact hat
        · exact (h.2.1 p hp).below hBw6) (by simp; unfold maxLen; omega)
      have hcat : cat ((⟨some ⟨w.heap.size + 1, 0, none⟩, 64, xorL x kb⟩ : Part) :: ps) = xorL x kb ++ cat ps := by simp [cat]
      have c1 := sum_any av cv _ w6 (hG.below hBw6) hPA (by rw [hcat, List.length_append, hxl]; omega)
      rw [hcat] at c1
      have hlen : ((⟨some ⟨w.heap.size + 1, 0, none⟩, 64, xorL x kb⟩ : Part) :: ps).length = 1 + ps.length := by simp; omega
      rw [hlen] at c1 ⊢
      obtain ⟨d, hd⟩ : ∃ d, Hid (v8 (sha (xorL x kb ++ cat ps)) = d) := ⟨_, rfl⟩
      have hdl : d.length = 32 := by rw [← hd.out, v8_length, sha_length]
      have h1d : ∀ v ∈ d, v.oneCell' = true := by rw [← hd.out]; exact v8_one _
      rw [hd.out] at c1
      clear hown6 hown7 hPA hcat hlen hgr6 hB6 hB5 hown5' hsrc5 hP5 hat hR6
      go_wp2_with fail
      refine c1.mono ?_
      rintro e w7 ⟨rfl, hw7⟩
      have hB7 := hBw6.trans (hw7.mono hBw6.size)
      have hT7 := there_below hT6 hw7 (by omega)
      have hi24 : (Tryz.prog.info? 32).map (·.size) = some d.toArray.size := by rw [List.size_toArray, hdl]; exact isz24
      have hsz24 : d.toArray.size = 32 := by rw [List.size_toArray, hdl]
      have hT7' : w7.there w.heap.size 0 d.toArray.size := by rw [hsz24]; exact hT7
      clear c1 hw7
      go_wp2_with (refine wpList_store_mid (op := ⟨none, .store 32 (.tmp 5) (.tmp 31), _, _, _, none⟩) rfl 32 _ _ rfl _ _ d.toArray rfl rfl hT7' hi24 (all_oneCell_toArray h1d) ?_)
      have hRr := World.rangeAt_setCells_same w7 w.heap.size 0 d (by rw [hdl]; exact hT7)
      have hBl := below_sets (Nat.le_refl w.heap.size) d 0 w7 hB7
      have hrs := run_loadVar_mid (P := Tryz.prog) (w7.setCells w.heap.size 0 d) w.heap.size 0 32 d _ hRr Tryz.underlying32 rfl (by rw [hdl]; exact isz24)
      refine bodyPost_ret (v := .agg d.toArray) (by simp [results, Tryz.results85, Act.put, asAddr, hrs]) rfl ⟨by rw [hd.out], hBl⟩
end Go.Proofs.YtnfijfnnpbenfaaGreatDoor.Qs
namespace Go.Proofs.YtnfijfnnpbenfaaGreatDoor.Sha
open Go.Proofs.YtnfijfnnpbenfaaGreatDoor.Qs
open Go.RowKit
open Sha
def mac (key zs : List Int) : List Int := sha (xorL 92 (macBlock key) ++ sha (xorL 54 (macBlock key) ++ zs))
end Go.Proofs.YtnfijfnnpbenfaaGreatDoor.Sha
namespace Go.Proofs.YtnfijfnnpbenfaaGreatDoor.Qs
open Go.RowKit
open Sha
theorem mac_length (key zs : List Int) : (mac key zs).length = 32 := sha_length _
theorem mac_ok (key zs : List Int) : ∀ z ∈ mac key zs, 0 ≤ z ∧ z < 256 := sha_ok _
theorem there24 (w : World) (d : List Int) (hd : d.length = 32) : (w.alloc (.cells (Array.replicate 32 (.int .u8 0)) 32)).there w.heap.size 0 (v8 d).toArray.size := by
 have e : (v8 d).toArray.size = 32 := by rw [List.size_toArray, v8_length, hd]
 rw [e]; exact (new_bytes w 32 32).2
theorem info24 (d : List Int) (hd : d.length = 32) : (Tryz.prog.info? 32).map (·.size) = some (v8 d).toArray.size := by rw [List.size_toArray, v8_length, hd]; exact isz24
set_option maxRecDepth 20000 in
set_option maxHeartbeats 1000000 in
theorem mac_any (ka : Option Addr) (kc : Nat) (key : List Int) (a : Option Addr) (cap : Nat) (ps : List Part) (w : World) (hG : Glob w) (hk : RowAt w ka key) (hkc : key.length ≤ kc) (hkm : kc ≤ maxLen) (hkl : key.length ≤ 1000000) (h : PartsAt w a ps) (hn : (cat ps).length < 1000000) (hpl : ps.length ≤ 100000) :
   Calls Tryz.prog 44 #[.slice ka key.length kc, .slice a ps.length cap] w fun e w' => e = .returned (.agg (v8 (mac key (cat ps))).toArray) ∧ Below w.heap.size w w' := by
  have hB0 : Below w.heap.size w (w.alloc (.cells (Array.replicate 32 (.int .u8 0)) 32)) := (Below.refl _ _).alloc (Nat.le_refl _) _
  have hT0 := (new_bytes w 32 32).2
  have cb := blockOf_any ka kc key _ (hG.below hB0) (hk.below hB0) hkc hkm hkl
  obtain ⟨kb, hkb⟩ : ∃ kb, Hid (macBlock key = kb) := ⟨_, rfl⟩
  have hbl : kb.length = 64 := by rw [← hkb.out]; exact macBlock_len key
  have HM : Hid (mac key (cat ps) = sha (xorL 92 kb ++ sha (xorL 54 kb ++ cat ps))) := by rw [← hkb.out]; rfl
  rw [hkb.out] at cb
  clear hkb
  have hsb : (v8 kb).length = 64 := by rw [v8_length, hbl]
  go_enter Tryz.func44, Tryz.ntmps44
  go_wp2_with fail
  refine cb.mono ?_
  rintro e w1 ⟨rfl, hw1⟩
  clear cb
  have hB1 := hB0.trans (hw1.mono hB0.size)
  have hs1 := hw1.size
  simp only [World.size_alloc] at hs1
  have hT1 := there_below hT0 hw1 (by simp)
  have F := fresh_store w1 (Array.replicate 64 (.int .u8 0)) 144 (v8 kb) (by rw [hsb]; rfl)
  have hN : (w1.alloc (.cells (Array.replicate 64 (.int .u8 0)) 144)).there w1.heap.size 0 (v8 kb).toArray.size := by
    have e : (v8 kb).toArray.size = 64 := by rw [List.size_toArray, hsb]
    rw [e]; exact (new64 w1).2
  have hi : (Tryz.prog.info? 144).map (·.size) = some (v8 kb).toArray.size := by rw [List.size_toArray, hsb]; exact isz52
  have h1c := all_oneCell_toArray (v8_one kb)
  go_upto_region 3 with (refine wpList_store_mid (op := ⟨none, .store 144 (.tmp 5) (.tmp 9), _, _, _, none⟩) rfl 144 _ _ rfl _ _ (v8 kb).toArray rfl rfl hN hi h1c ?_)
  go_name_world w2 hw2
  rw [show (w1.alloc (.cells (Array.replicate 64 (.int .u8 0)) 144)).setCells w1.heap.size 0 (v8 kb) = w2 from hw2] at F
  obtain ⟨hR2, hB2', hz2', _⟩ := F
  have hz2 : w1.heap.size < w2.heap.size := by omega
  clear hz2'
  clear hw2 hN hi h1c hw1 hT0 hB0
  have hB2 := hB1.trans (hB2'.mono hB1.size)
  have hT2 := there_below hT1 hB2' (by omega)
  have c1 := macC_any 54 w1.heap.size kb a cap ps w2 (hG.below hB2) hbl hR2 (by omega) (h.below hB2) hn hpl
  obtain ⟨d, hd⟩ : ∃ d, Hid (sha (xorL 54 kb ++ cat ps) = d) := ⟨_, rfl⟩
  have hdl : d.length = 32 := by rw [← hd.out]; exact sha_length _
  have hdo : ∀ z ∈ d, 0 ≤ z ∧ z < 256 := by rw [← hd.out]; exact sha_ok _
  rw [hd.out] at c1 HM
  clear hd hB1 hT1
  try simp only [Act.put]
  go_wp2_with fail
  refine c1.mono ?_
  rintro e w3 ⟨rfl, hw3⟩
  clear c1
  have hB3 := hB2.trans (hw3.mono hB2.size)
  have hT3 := there_below hT2 hw3 (by omega)
  have hR3 := range_below hR2 hw3 (by omega)
  have hs3 := hw3.size
  have F := fresh_store w3 (Array.replicate 32 (.int .u8 0)) 32 (v8 d) (by rw [v8_length, hdl]; rfl)
  have hN := there24 w3 d hdl
  have hi := info24 d hdl
  have h1c := all_oneCell_toArray (v8_one d)
  go_upto_region 4 with (refine wpList_store_mid (op := ⟨none, .store 32 (.tmp 7) (.tmp 13), _, _, _, none⟩) rfl 32 _ _ rfl _ _ (v8 d).toArray rfl rfl hN hi h1c ?_)
  go_name_world w4 hw4
  rw [show (w3.alloc (.cells (Array.replicate 32 (.int .u8 0)) 32)).setCells w3.heap.size 0 (v8 d) = w4 from hw4] at F
  obtain ⟨hR4, hB4', hz4', _⟩ := F
  have hz4 : w3.heap.size < w4.heap.size := by omega
  clear hz4'
  clear hw4 hN hi h1c hw3 hR2 hT2
  have hB4 := hB3.trans (hB4'.mono hB3.size)
  have hT4 := there_below hT3 hB4' (by omega)
  have hR4k := range_below hR3 hB4' (by omega)
  have hsl := slice_all (w := w4) Tryz.underlying32 isz8 w3.heap.size 0 (by omega)
  have hat : (⟨some ⟨w3.heap.size, 0, none⟩, 32, d⟩ : Part).at w4 := ⟨⟨by rw [hdl]; unfold maxLen; omega, hdo, Or.inr ⟨_, _, rfl, by omega, hR4⟩⟩, by show d.length ≤ 32; omega, by show 32 ≤ maxLen; unfold maxLen; omega⟩
  have hP := one_part w4 #[.slice (some ⟨w3.heap.size, 0, none⟩) 32 32] ⟨some ⟨w3.heap.size, 0, none⟩, 32, d⟩ hat (by simp only [Part.val, hdl])
  have hBp : Below w.heap.size w (w4.alloc (.cells #[.slice (some ⟨w3.heap.size, 0, none⟩) 32 32] 57)) := hB4.alloc hB4.size _
  have hBq : Below w4.heap.size w4 (w4.alloc (.cells #[.slice (some ⟨w3.heap.size, 0, none⟩) 32 32] 57)) := (Below.refl _ _).alloc (Nat.le_refl _) _
  have hcz : cat [(⟨some ⟨w3.heap.size, 0, none⟩, 32, d⟩ : Part)] = d := by simp [cat]
  have c2 := macC_any 92 w1.heap.size kb _ 1 _ _ (hG.below hBp) hbl (range_below hR4k hBq (by omega)) (by simp; omega) hP (by rw [hcz]; omega) (by simp)
  rw [hcz] at c2
  simp only [List.length_cons, List.length_nil, Nat.zero_add] at c2
  obtain ⟨m, hm⟩ : ∃ m, Hid (sha (xorL 92 kb ++ d) = m) := ⟨_, rfl⟩
  have hml : m.length = 32 := by rw [← hm.out]; exact sha_length _
  rw [hm.out] at c2 HM
  clear hP hat hcz hm
  try simp only [Act.put]
  go_wp2_with fail
  refine c2.mono ?_
  rintro e w5 ⟨rfl, hw5⟩
  clear c2
  have hB5 := hBp.trans (hw5.mono hBp.size)
  have hT5' := there_below (there_below hT4 hBq (by omega)) hw5 (by simp; omega)
  have hT5 : w5.there w.heap.size 0 (v8 m).toArray.size := by
    have e : (v8 m).toArray.size = 32 := by rw [List.size_toArray, v8_length, hml]
    rw [e]; exact hT5'
  have hi := info24 m hml
  have h1c := all_oneCell_toArray (v8_one m)
  clear hw5 hBq hBp
  go_wp2_with (refine wpList_store_mid (op := ⟨none, .store 32 (.tmp 4) (.tmp 17), _, _, _, none⟩) rfl 32 _ _ rfl _ _ (v8 m).toArray rfl rfl hT5 hi h1c ?_)
  have hRr := World.rangeAt_setCells_same w5 w.heap.size 0 (v8 m) (by rw [v8_length, hml]; exact hT5')
  have hBl := below_sets (Nat.le_refl w.heap.size) (v8 m) 0 w5 hB5
  have hrs := run_loadVar_mid (P := Tryz.prog) (w5.setCells w.heap.size 0 (v8 m)) w.heap.size 0 32 (v8 m) _ hRr Tryz.underlying32 rfl (by simpa using hi)
  refine bodyPost_ret (v := .agg (v8 m).toArray) (by simp [results, Tryz.results44, Act.put, asAddr, hrs]) rfl ⟨by rw [HM.out], hBl⟩
open Sha Tal
theorem str_bytes (s : ByteArray) (w : World) (hs : s.size ≤ 1000000) : ∃ cap w', (convert 9 57 (.string s)).run Tryz.prog w = .ok (.slice (some ⟨w.heap.size, 0, none⟩) s.size cap) w' ∧ RowAt w' (some ⟨w.heap.size, 0, none⟩) (strL s) ∧ s.size ≤ cap ∧ cap ≤ maxLen ∧ Below w.heap.size w w' ∧ w.heap.size < w'.heap.size := by
 refine ⟨_, _, run_bytes_of_string w 9 57 5 s Tryz.underlying9 Tryz.underlying57 Tryz.underlying5, ?_, grownCap_ge _ _ _ _, grownCap_le_maxLen _ _ _ _ (by unfold maxLen; omega), ((Below.refl _ _).drew).alloc (Nat.le_refl _) _, by simp⟩
 refine ⟨by rw [strL_length]; unfold maxLen; omega, strL_byte s, Or.inr ⟨_, 0, rfl, by simp, ?_⟩⟩
 have := range_mark w.drew (bytesRow s (grownCap w s.size 0 5)) 5 ((bytesRow s (grownCap w s.size 0 5)).size, (bytesRow s (grownCap w s.size 0 5)).size + 1)
 have e : (bytesRow s (grownCap w s.size 0 5)).toList = v8 (strL s) ++ List.replicate (grownCap w s.size 0 5 - s.size) (.int .u8 0) := by
  simp [bytesRow, v8, strL]
 rw [e] at this
 exact range_left this
def KeysAt (w : World) (p : Option Addr) (ds : List (List Int)) : Prop :=
 (p = none ∧ ds = []) ∨ ∃ K a cap, p = some ⟨K, 0, none⟩ ∧ K < w.heap.size ∧ w.cell? ⟨K, 0, none⟩ = some (.slice a ds.length cap) ∧ ds.length ≤ 4096 ∧ (∀ d ∈ ds, d.length = 32 ∧ ∀ z ∈ d, 0 ≤ z ∧ z < 256) ∧
  (ds = [] ∨ ∃ D, a = some ⟨D, 0, none⟩ ∧ D < w.heap.size ∧ ∀ i d, ds[i]? = some d → w.rangeAt D (i * 32) (v8 d))
theorem KeysAt.below {w w' : World} {p : Option Addr} {ds : List (List Int)} (h : KeysAt w p ds) (hb : Below w.heap.size w w') : KeysAt w' p ds := by
 rcases h with h | ⟨K, a, cap, rfl, hK, hc, hl, hd, hr⟩
 ·exact .inl h
 ·refine .inr ⟨K, a, cap, rfl, Nat.lt_of_lt_of_le hK hb.size, (hb.cell (p := ⟨K, 0, none⟩) hK).trans hc, hl, hd, ?_⟩
  rcases hr with hr | ⟨D, rfl, hD, hr⟩
  ·exact .inl hr
  ·exact .inr ⟨D, rfl, Nat.lt_of_lt_of_le hD hb.size, fun i d hi => range_below (hr i d hi) hb hD⟩
theorem KeysAt.len {w : World} {p : Option Addr} {ds : List (List Int)} (h : KeysAt w p ds) : ds.length ≤ 4096 := by
 rcases h with ⟨_, rfl⟩ | ⟨K, a, cap, _, _, _, hl, _⟩
 ·simp
 ·exact hl
theorem klen_any (p : Option Addr) (ds : List (List Int)) (w : World) (h : KeysAt w p ds) : Calls Tryz.prog 27 #[.pointer p] w fun e w' => e = .returned (.int .i64 (ds.length : Int)) ∧ w' = w := by
 rcases h with ⟨rfl, rfl⟩ | ⟨K, a, cap, rfl, hK, hc, hl, hd, hr⟩
 ·go_enter Tryz.func27, Tryz.ntmps27
  go_wp2
  go_ret
  exact ⟨rfl, rfl⟩
 ·clear hr hd
  go_enter Tryz.func27, Tryz.ntmps27
  go_wp2
  go_ret
  exact ⟨rfl, rfl⟩
def zeros16 : List Int := List.replicate 16 0
def signOf (ds : List (List Int)) (id : Int) (body : ByteArray) : List Int × Int :=
 if ds = [] then (zeros16, 1) else if id < 0 ∨ (ds.length : Int) ≤ id then (zeros16, 2) else ((mac (ds.getD id.toNat []) (strL body)).take 16, 0)
theorem signOf_length (ds : List (List Int)) (id : Int) (body : ByteArray) : (signOf ds id body).1.length = 16 := by
 unfold signOf
 split
 ·rfl
 ·split
  ·rfl
  ·simp [mac_length]
theorem signOf_ok (ds : List (List Int)) (id : Int) (body : ByteArray) : ∀ z ∈ (signOf ds id body).1, 0 ≤ z ∧ z < 256 := by
 unfold signOf
 split
 ·decide
 ·split
  ·decide
  ·intro z hz; exact mac_ok _ _ z (List.mem_of_mem_take hz)
theorem arr16 (b : Nat) (w : World) : (Instr.arrayAt 51 (.slice (some ⟨b, 0, none⟩) 16 32)).run Tryz.prog w = .ok (.pointer (some ⟨b, 0, none⟩)) w := by kernel_rfl
theorem info16 (t : List Int) (h : t.length = 16) : (Tryz.prog.info? 51).map (·.size) = some (v8 t).toArray.size := by rw [List.size_toArray, v8_length, h]; exact iszT
theorem load16 {w : World} {b o : Nat} {t : List Int} (h : t.length = 16) (hr : w.rangeAt b o (v8 t)) : (loadVar 51 ⟨b, o, none⟩).run Tryz.prog w = .ok (.agg (v8 t).toArray) w :=
 run_loadVar_mid (P := Tryz.prog) w b o 51 (v8 t) _ hr Tryz.underlying51 rfl (by simpa using info16 t h)
set_option maxRecDepth 20000 in
set_option maxHeartbeats 1000000 in
theorem ksign_any (p : Option Addr) (ds : List (List Int)) (id : Int) (body : ByteArray) (w : World) (hG : Glob w) (h : KeysAt w p ds) (hb : ds = [] ∨ body.size ≤ 100000) :
    Calls Tryz.prog 15 #[.pointer p, .int .i64 id, .string body] w fun e w' => e = .returned (.tuple #[.agg (v8 (signOf ds id body).1).toArray, .int .i64 (signOf ds id body).2]) ∧ Below w.heap.size w w' := by
  have hB0 : Below w.heap.size w (w.alloc (.cells (Array.replicate 16 (.int .u8 0)) 51)) := (Below.refl _ _).alloc (Nat.le_refl _) _
  have cl := klen_any p ds _ (h.below hB0)
  have hR0 : (w.alloc (.cells (Array.replicate 16 (.int .u8 0)) 51)).rangeAt w.heap.size 0 (v8 zeros16) := (new_bytes w 16 51).1
  have hrs := load16 (t := zeros16) rfl hR0
  by_cases h0 : ds = []
  · subst h0
    have HS : Hid (signOf [] id body = (zeros16, 1)) := by show _ = _; simp [signOf]
    rw [HS.out]
    clear HS
    go_enter Tryz.func15, Tryz.ntmps15
    go_wp2_with (go_at_call 27; refine cl.mono ?_; rintro e w1 ⟨rfl, rfl⟩)
    exact bodyPost_ret (v := .tuple #[.agg (v8 zeros16).toArray, .int .i64 1]) (by simp [results, Tryz.results15, asAddr, hrs]) rfl ⟨rfl, hB0⟩
  · have hb := hb.resolve_left h0
    have hpos : 0 < ds.length := List.length_pos_iff.2 h0
    have hne : ((ds.length : Int) == 0) = false := by simp; omega
    have h4 := h.len
    by_cases h1 : id < 0 ∨ (ds.length : Int) ≤ id
    · have HS : Hid (signOf ds id body = (zeros16, 2)) := by show _ = _; simp [signOf, h0, h1]
      rw [HS.out]
      clear HS
      rcases h1 with h1 | h1
      · clear h0 h
        go_enter Tryz.func15, Tryz.ntmps15
        go_wp2_with (go_at_call 27; refine cl.mono ?_; rintro e w1 ⟨rfl, hx⟩; obtain rfl := hx.symm; clear hx)
        exact bodyPost_ret (v := .tuple #[.agg (v8 zeros16).toArray, .int .i64 2]) (by simp [results, Tryz.results15, asAddr, hrs]) rfl ⟨rfl, hB0⟩
      · have h1' : ¬ id < 0 := by omega
        clear h0 h
        go_enter Tryz.func15, Tryz.ntmps15
        go_wp2_with (go_at_call 27; refine cl.mono ?_; rintro e w1 ⟨rfl, hx⟩; obtain rfl := hx.symm; clear hx)
        exact bodyPost_ret (v := .tuple #[.agg (v8 zeros16).toArray, .int .i64 2]) (by simp [results, Tryz.results15, asAddr, hrs]) rfl ⟨rfl, hB0⟩
    · obtain ⟨k, rfl⟩ := Int.eq_ofNat_of_zero_le (show 0 ≤ id by omega)
      have hk : k < ds.length := by omega
      have h1a : ¬ (k : Int) < 0 := by omega
      have h1b : (k : Int) < ds.length := by omega
      have HS : Hid (signOf ds (k : Int) body = ((mac ds[k] (strL body)).take 16, 0)) := by
        show _ = _
        simp only [signOf, h0, h1, if_false, Int.toNat_natCast, List.getD_eq_getElem?_getD, List.getElem?_eq_getElem hk, Option.getD_some]
      rw [HS.out]
      clear HS h1
      obtain ⟨K, a, cap, rfl, hK, hc, _, hd, hr⟩ : ∃ K a cap, p = some ⟨K, 0, none⟩ ∧ K < w.heap.size ∧ w.cell? ⟨K, 0, none⟩ = some (.slice a ds.length cap) ∧ ds.length ≤ 4096 ∧ (∀ d ∈ ds, d.length = 32 ∧ ∀ z ∈ d, 0 ≤ z ∧ z < 256) ∧
          (ds = [] ∨ ∃ D, a = some ⟨D, 0, none⟩ ∧ D < w.heap.size ∧ ∀ i d, ds[i]? = some d → w.rangeAt D (i * 32) (v8 d)) := by
        rcases h with ⟨_, e⟩ | q
        · exact absurd e h0
        · exact q
      obtain ⟨D, rfl, hD, hr⟩ := hr.resolve_left h0
      have hrk := hr k ds[k] (List.getElem?_eq_getElem hk)
      obtain ⟨hdl, hdo⟩ := hd ds[k] (List.getElem_mem hk)
      obtain ⟨d, hd'⟩ : ∃ d, Hid (ds[k] = d) := ⟨_, hide rfl⟩
      rw [hd'.out] at hrk hdl hdo ⊢
      clear hr hd h0 h
      have hc1 := (hB0.cell (p := ⟨K, 0, none⟩) hK).trans hc
      clear hrs hR0
      have hT0 := (new_bytes w 16 51).2
      obtain ⟨cap2, w2, hcv, hrow2, hc2a, hc2b, hw2, hs2⟩ := str_bytes body (w.alloc (.cells (Array.replicate 16 (.int .u8 0)) 51)) (by omega)
      simp only [World.size_alloc] at hcv hrow2 hw2 hs2
      have hB2 : Below w.heap.size w w2 := hB0.trans (hw2.mono (by omega))
      have hT2 := there_below hT0 hw2 (by omega)
      have hat : (⟨some ⟨w.heap.size + 1, 0, none⟩, cap2, strL body⟩ : Part).at w2 := ⟨hrow2, by show (strL body).length ≤ cap2; rw [strL_length]; exact hc2a, hc2b⟩
      have hP := one_part w2 #[.slice (some ⟨w.heap.size + 1, 0, none⟩) body.size cap2] _ hat (by simp only [Part.val, strL_length])
      have hBp : Below w2.heap.size w2 (w2.alloc (.cells #[.slice (some ⟨w.heap.size + 1, 0, none⟩) body.size cap2] 57)) := (Below.refl _ _).alloc (Nat.le_refl _) _
      have hB3 := hB2.trans (hBp.mono hB2.size)
      have hkr : RowAt w (some ⟨D, k * 32, none⟩) d := ⟨by rw [hdl]; unfold maxLen; omega, hdo, Or.inr ⟨_, _, rfl, hD, hrk⟩⟩
      have ec : cat [(⟨some ⟨w.heap.size + 1, 0, none⟩, cap2, strL body⟩ : Part)] = strL body := by simp [cat]
      have cm := mac_any (some ⟨D, k * 32, none⟩) 32 d _ 1 _ _ (hG.below hB3) (hkr.below hB3) (by omega) (by unfold maxLen; omega) (by omega) hP (by rw [ec, strL_length]; omega) (by simp)
      rw [ec, hdl] at cm
      simp only [List.length_cons, List.length_nil, Nat.zero_add] at cm
      obtain ⟨m, hm⟩ : ∃ m, Hid (mac d (strL body) = m) := ⟨_, hide rfl⟩
      have hml : m.length = 32 := by rw [← hm.out]; exact mac_length _ _
      rw [hm.out] at cm ⊢
      clear hP hat ec hkr hrk hdo hrow2 hw2
      go_enter Tryz.func15, Tryz.ntmps15
      go_wp2_with (first | (go_at_call 27; refine cl.mono ?_; rintro e w1 ⟨rfl, hx⟩; obtain rfl := hx.symm; clear hx))
      refine cm.mono ?_
      rintro e w3 ⟨rfl, hw3⟩
      clear cm cl hcv
      have hB4 := hB3.trans (hw3.mono hB3.size)
      have hT3 := there_below (there_below hT2 hBp (by omega)) hw3 (by simp; omega)
      have hs3 := hw3.size
      simp only [World.size_alloc] at hs3
      have F := fresh_store w3 (Array.replicate 32 (.int .u8 0)) 32 (v8 m) (by rw [v8_length, hml]; rfl)
      have hN := there24 w3 m hml
      have hi := info24 m hml
      have h1c := all_oneCell_toArray (v8_one m)
      go_upto_region 6 with (refine wpList_store_mid (op := ⟨none, .store 32 (.tmp 8) (.tmp 32), _, _, _, none⟩) rfl 32 _ _ rfl _ _ (v8 m).toArray rfl rfl hN hi h1c ?_)
      go_name_world w4 hw4
      rw [show (w3.alloc (.cells (Array.replicate 32 (.int .u8 0)) 32)).setCells w3.heap.size 0 (v8 m) = w4 from hw4] at F
      obtain ⟨hR4, hB4', hz4', _⟩ := F
      have hz4 : w3.heap.size < w4.heap.size := by omega
      clear hz4' hw4 hN hi h1c hw3
      have hB5 := hB4.trans (hB4'.mono hB4.size)
      have hT4 := there_below hT3 hB4' (by omega)
      have hsl := slice_h (w := w4) Tryz.underlying32 isz8 w3.heap.size 0 16 16 rfl (by omega) (by omega)
      obtain ⟨t, ht⟩ : ∃ t, Hid (m.take 16 = t) := ⟨_, hide rfl⟩
      have htl : t.length = 16 := by rw [← ht.out, List.length_take]; omega
      have hRt : w4.rangeAt w3.heap.size 0 (v8 t) := by
        have e : v8 m = v8 t ++ v8 (m.drop 16) := by rw [← v8_append, ← ht.out, List.take_append_drop]
        rw [e] at hR4; exact range_left hR4
      try simp only [Act.put]
      have hl16 : (Tryz.prog.info? 51).map (·.size) = some (v8 t).length := by simpa using info16 t htl
      have hT4' : w4.there w.heap.size 0 (v8 t).toArray.size := by
        have e : (v8 t).toArray.size = 16 := by rw [List.size_toArray, v8_length, htl]
        rw [e]; exact hT4
      have h1t := all_oneCell_toArray (v8_one t)
      have hit := info16 t htl
      have hap := arr16 w3.heap.size w4
      refine wp_region_list ?_
      refine wpList_plain rfl fun K hK => ?_
      go_simp
      refine hK _ _ ?_
      clear hK K
      refine wpList_plain rfl fun K hK => ?_
      go_simp
      refine hK _ _ ?_
      clear hK K
      refine wpList_load_mid rfl 51 _ rfl _ _ rfl (v8 t) _ hRt Tryz.underlying51 rfl hl16 ?_
      refine wpList_store_mid rfl 51 _ _ rfl _ _ (v8 t).toArray rfl rfl hT4' hit h1t ?_
      go_wp2
      have hRr := World.rangeAt_setCells_same w4 w.heap.size 0 (v8 t) (by rw [v8_length, htl]; exact hT4)
      have hBl := below_sets (Nat.le_refl w.heap.size) (v8 t) 0 w4 hB5
      have hrs := load16 htl hRr
      exact bodyPost_ret (v := .tuple #[.agg (v8 t).toArray, .int .i64 0]) (by simp [results, Tryz.results15, asAddr, hrs]) rfl ⟨by rw [ht.out], hBl⟩
def goodB (n : Int) : Bool := decide (4 ≤ n ∧ n ≤ 64 ∧ n % 3 = 1)
theorem goodB_true {n : Int} (h : goodB n = true) : 4 ≤ n ∧ n ≤ 64 ∧ n % 3 = 1 := by simpa [goodB] using h
theorem goodB_mk {n : Int} (h : 4 ≤ n ∧ n ≤ 64 ∧ n % 3 = 1) : goodB n = true := by simpa [goodB] using h
theorem goodB_no {n : Int} (h : ¬ (4 ≤ n ∧ n ≤ 64 ∧ n % 3 = 1)) : goodB n = false := by simpa [goodB] using h
theorem ret_bool {a b : Bool} (h : a = b) : Ending.returned (.bool a) = .returned (.bool b) := by rw [h]
theorem ret_int {k : IntKind} {a b : Int} (h : a = b) : Ending.returned (.int k a) = .returned (.int k b) := by rw [h]
set_option maxHeartbeats 400000 in
theorem good_any (n : Int) (w : World) : Calls Tryz.prog 42 #[.int .i64 n] w fun e w' => e = .returned (.bool (goodB n)) ∧ w' = w := by
 by_cases h1 : 4 ≤ n
 ·by_cases h2 : n ≤ 64
  ·go_enter Tryz.func42, Tryz.ntmps42
   go_wp2
   go_ret
   refine ⟨ret_bool ?_, rfl⟩
   by_cases h3 : n % 3 = 1
   ·rw [goodB_mk ⟨h1, h2, h3⟩]; simpa using h3
   ·rw [goodB_no (by omega)]; simpa using h3
  ·go_enter Tryz.func42, Tryz.ntmps42
   go_wp2
   go_ret
   exact ⟨ret_bool (by rw [goodB_no (by omega)]), rfl⟩
 ·go_enter Tryz.func42, Tryz.ntmps42
  go_wp2
  go_ret
  exact ⟨ret_bool (by rw [goodB_no (by omega)]), rfl⟩
def faultsI (n : Int) : Int := if goodB n then n / 3 else 0
def mostI (n : Int) : Int := if goodB n then 2 * (n / 3) + 1 else 0
theorem faultsI_g {n : Int} (h : goodB n = true) : faultsI n = n / 3 := by simp [faultsI, h]
theorem mostI_g {n : Int} (h : goodB n = true) : mostI n = 2 * (n / 3) + 1 := by simp [mostI, h]
theorem faultsI_b {n : Int} (h : goodB n = false) : faultsI n = 0 := by simp [faultsI, h]
theorem mostI_b {n : Int} (h : goodB n = false) : mostI n = 0 := by simp [mostI, h]
theorem good_true {n : Int} (h : goodB n = true) (w : World) : Calls Tryz.prog 42 #[.int .i64 n] w fun e w' => e = .returned (.bool true) ∧ w' = w := by
 have := good_any n w; rwa [h] at this
theorem good_false {n : Int} (h : goodB n = false) (w : World) : Calls Tryz.prog 42 #[.int .i64 n] w fun e w' => e = .returned (.bool false) ∧ w' = w := by
 have := good_any n w; rwa [h] at this
set_option maxHeartbeats 400000 in
theorem faults_any (n : Int) (w : World) : Calls Tryz.prog 43 #[.int .i64 n] w fun e w' => e = .returned (.int .i64 (faultsI n)) ∧ w' = w := by
 cases h : goodB n
 ·have HH := hide h
  have c := good_false h w
  clear h
  go_enter Tryz.func43, Tryz.ntmps43
  go_wp2_with (go_at_call 42; refine c.mono ?_; rintro e w1 ⟨rfl, rfl⟩)
  go_ret
  exact ⟨ret_int (by rw [faultsI_b HH.out]), rfl⟩
 ·have HH := hide h
  have c := good_true h w
  obtain ⟨h1, h2, h3⟩ := goodB_true h
  have H3 := hide h3
  clear h h3
  go_enter Tryz.func43, Tryz.ntmps43
  go_wp2_with (go_at_call 42; refine c.mono ?_; rintro e w1 ⟨rfl, rfl⟩)
  go_ret
  exact ⟨ret_int (by rw [faultsI_g HH.out]; have := H3.out; omega), rfl⟩
set_option maxHeartbeats 400000 in
theorem most_any (n : Int) (w : World) : Calls Tryz.prog 14 #[.int .i64 n] w fun e w' => e = .returned (.int .i64 (mostI n)) ∧ w' = w := by
 cases h : goodB n
 ·have HH := hide h
  have c := good_false h w
  clear h
  go_enter Tryz.func14, Tryz.ntmps14
  go_wp2_with (go_at_call 42; refine c.mono ?_; rintro e w1 ⟨rfl, rfl⟩)
  go_ret
  exact ⟨ret_int (by rw [mostI_b HH.out]), rfl⟩
 ·have HH := hide h
  have c := good_true h w
  have d := faults_any n w
  rw [faultsI_g h] at d
  obtain ⟨h1, h2, h3⟩ := goodB_true h
  have b0 : 0 ≤ n / 3 := by omega
  have b1 : n / 3 ≤ 21 := by omega
  clear h h3
  generalize hq : n / 3 = q at *
  have HQ := hide hq
  clear hq
  go_enter Tryz.func14, Tryz.ntmps14
  go_wp2_with (first | (go_at_call 42; refine c.mono ?_; rintro e w1 ⟨rfl, rfl⟩) | (go_at_call 43; refine d.mono ?_; rintro e w1 ⟨rfl, rfl⟩))
  go_ret
  exact ⟨ret_int (by rw [mostI_g HH.out, HQ.out]), rfl⟩
end Go.Proofs.YtnfijfnnpbenfaaGreatDoor.Qs
namespace Go.Proofs.YtnfijfnnpbenfaaGreatDoor
open Go.ChangeShapes Go.WideShapes Go.ChangeAt Go.RowKit
open Sha
theorem own : ownKnob Tryz.prog.godebug = none := by kernel_rfl
theorem laidOut : laidOutB Tryz.prog = true := by kernel_rfl
def laid2 {H : Type} : List (String × DataW H) := [("raddle/digest.starts", Rows.laid_raddle_digest_starts), ("raddle/digest.roots", Rows.laid_raddle_digest_roots)]
theorem gS : Tryz.prog.globalNamed "raddle/digest.starts" = some 0 := by kernel_rfl
theorem gR : Tryz.prog.globalNamed "raddle/digest.roots" = some 1 := by kernel_rfl
theorem tS : (Tryz.prog.globals[0]?).map (·.type) = some 143 := by kernel_rfl
theorem tR : (Tryz.prog.globals[1]?).map (·.type) = some 206 := by kernel_rfl
theorem door_met (os : Os) (args : Array Value) : laidMetH Tryz.prog laid2 ((World.doorLaid Tryz.prog 400 os).forCall (fun _ _ => 0) ⟨#[], args, []⟩).memory :=
 laidMetH_of_parts3 (fuel := 8) (laidMet_of_run' 8 (by kernel_rfl) (by kernel_rfl)) (by kernel_rfl) (by kernel_rfl)
def startZ : List Int := (list init).map fun x => (x.toNat : Int)
def rootZ : List Int := kl.map fun x => (x.toNat : Int)
theorem starts_tab {H : Type} : (Rows.laid_raddle_digest_starts : DataW H) = Lib.tabData .u32 startZ := by kernel_rfl
theorem roots_tab {H : Type} : (Rows.laid_raddle_digest_roots : DataW H) = Lib.tabData .u32 rootZ := by kernel_rfl
theorem glob_of {W : World} (h : laidMetH Tryz.prog laid2 W) : Glob W := by
 rw [MakeChecks.laidMetH_plain _ _ _ (by kernel_rfl)] at h
 obtain ⟨ps, ⟨g0, t0, cs0, f0, p0, q0, hg0, ht0, hv0, hd0, ⟨g1, t1, cs1, f1, p1, q1, hg1, ht1, hv1, hd1, _, _⟩, _⟩, _, _⟩ := h
 obtain rfl := Option.some.inj (gS.symm.trans hg0)
 obtain rfl := Option.some.inj (gR.symm.trans hg1)
 obtain rfl := Option.some.inj (tS.symm.trans ht0)
 obtain rfl := Option.some.inj (tR.symm.trans ht1)
 rw [starts_tab] at hd0
 rw [roots_tab] at hd1
 have e0 := Lib.cells_of_tab Tryz.underlying143 Tryz.underlying142 (by kernel_rfl) (by kernel_rfl) hd0
 have e1 := Lib.cells_of_tab Tryz.underlying206 Tryz.underlying142 (by kernel_rfl) (by kernel_rfl) hd1
 have r0 : W.rangeAt 0 0 (v32 (list init)) := fun j v hv => by
  have := World.var?_cell hg0 hv0 j
  rw [Nat.zero_add, this, ← Array.getElem?_toList, e0]
  simpa [startZ, v32] using hv
 have r1 : W.rangeAt 1 0 (v32 kl) := fun j v hv => by
  have := World.var?_cell hg1 hv1 j
  rw [Nat.zero_add, this, ← Array.getElem?_toList, e1]
  simpa [rootZ, v32] using hv
 refine ⟨r0, r1, ?_⟩
 have := World.block_lt_of_cell? W _ (r1 0 _ rfl)
 exact this
end Go.Proofs.YtnfijfnnpbenfaaGreatDoor
namespace Go.Proofs.YtnfijfnnpbenfaaGreatDoor.Qs
def above (l : List Int) (x : Int) : Nat := l.countP (fun y => decide (x < y))
def same (l : List Int) (x : Int) : Nat := l.countP (fun y => decide (y = x))
def isNth (l : List Int) (i x : Int) : Bool := decide ((above l x : Int) < i) && decide (i ≤ (above l x : Int) + (same l x : Int))
def nthFrom (l : List Int) (i : Int) (m : List Int) : Int := (m.find? (isNth l i)).getD 0
def nth (l : List Int) (i : Int) : Int := nthFrom l i l
theorem above_same (l : List Int) (x : Int) : above l x + same l x = l.countP (fun y => decide (x ≤ y)) := by
  unfold above same
  induction l with
  | nil => rfl
  | cons a l ih =>
    simp only [List.countP_cons, decide_eq_true_eq]
    rcases Int.lt_trichotomy a x with h | h | h
    · rw [if_neg (by omega), if_neg (by omega), if_neg (by omega)]; omega
    · rw [if_neg (by omega), if_pos h, if_pos (by omega)]; omega
    · rw [if_pos (by omega), if_neg (by omega), if_pos (by omega)]; omega
theorem above_le (l : List Int) (x : Int) : above l x + same l x ≤ l.length := by
 rw [above_same]; exact List.countP_le_length
theorem above_anti (l : List Int) (x y : Int) (h : x < y) : above l y + same l y ≤ above l x := by
 rw [above_same]; unfold above
 refine List.countP_mono_left ?_
 intro z _ hz
 simp at hz ⊢; omega
theorem isNth_unique (l : List Int) (i x y : Int) (hx : isNth l i x = true) (hy : isNth l i y = true) : x = y := by
 simp only [isNth, Bool.and_eq_true, decide_eq_true_eq] at hx hy
 rcases Int.lt_trichotomy x y with h | h | h
 ·have := above_anti l x y h; omega
 ·exact h
 ·have := above_anti l y x h; omega
theorem above_perm {l m : List Int} (h : l.Perm m) (x : Int) : above l x = above m x := h.countP_eq _
theorem same_perm {l m : List Int} (h : l.Perm m) (x : Int) : same l x = same m x := h.countP_eq _
theorem nth_none (l : List Int) (i : Int) (h : i < 1 ∨ (l.length : Int) < i) : nth l i = 0 := by
 unfold nth nthFrom
 have : l.find? (isNth l i) = none := by
  rw [List.find?_eq_none]
  intro x _
  have := above_le l x
  simp only [isNth, Bool.and_eq_true, decide_eq_true_eq]
  omega
 rw [this]; rfl
theorem sorted_isNth (s : List Int) (hs : s.Pairwise (· ≤ ·)) (p : Nat) (hp : p < s.length) : isNth s ((s.length : Int) - p) s[p] = true := by
 have h1 : above s s[p] ≤ s.length - (p + 1) := by
  unfold above
  have e : s = s.take (p + 1) ++ s.drop (p + 1) := (List.take_append_drop _ _).symm
  have z : (s.take (p + 1)).countP (fun y => decide (s[p] < y)) = 0 := by
   rw [List.countP_eq_zero]
   intro y hy
   obtain ⟨k, hk, rfl⟩ := List.getElem_of_mem hy
   simp only [List.length_take] at hk
   have hk' : k ≤ p := by omega
   simp only [List.getElem_take, decide_eq_true_eq]
   rcases Nat.lt_or_eq_of_le hk' with h | rfl
   ·have := List.pairwise_iff_getElem.1 hs k p (by omega) hp h; omega
   ·omega
  have c : s.countP (fun y => decide (s[p] < y)) = (s.take (p + 1)).countP (fun y => decide (s[p] < y)) + (s.drop (p + 1)).countP (fun y => decide (s[p] < y)) := by
   rw [← List.countP_append, List.take_append_drop]
  rw [c, z]
  have := List.countP_le_length (p := fun y => decide (s[p] < y)) (l := s.drop (p + 1))
  simp only [List.length_drop] at this
  omega
 have h2 : s.length - p ≤ above s s[p] + same s s[p] := by
  rw [above_same]
  have c : s.countP (fun y => decide (s[p] ≤ y)) = (s.take p).countP (fun y => decide (s[p] ≤ y)) + (s.drop p).countP (fun y => decide (s[p] ≤ y)) := by
   rw [← List.countP_append, List.take_append_drop]
  have z : (s.drop p).countP (fun y => decide (s[p] ≤ y)) = (s.drop p).length := by
   rw [List.countP_eq_length]
   intro y hy
   obtain ⟨k, hk, rfl⟩ := List.getElem_of_mem hy
   simp only [List.length_drop] at hk
   simp only [List.getElem_drop, decide_eq_true_eq]
   rcases Nat.eq_zero_or_pos k with rfl | h
   ·simp
   ·exact List.pairwise_iff_getElem.1 hs p (p + k) hp (by omega) (by omega)
  rw [c, z, List.length_drop]; omega
 simp only [isNth, Bool.and_eq_true, decide_eq_true_eq]
 omega
theorem nth_sorted (l s : List Int) (hp : s.Perm l) (hs : s.Pairwise (· ≤ ·)) (i : Nat) (h1 : 1 ≤ i) (h2 : i ≤ l.length) : nth l i = s[s.length - i]'(by have := hp.length_eq; omega) := by
 have hl := hp.length_eq
 have hn := sorted_isNth s hs (s.length - i) (by omega)
 have e : ((s.length : Int) - ((s.length - i : Nat) : Int)) = (i : Int) := by omega
 rw [e] at hn
 have hn' : isNth l i s[s.length - i] = true := by
  unfold isNth at hn ⊢; rwa [above_perm hp, same_perm hp] at hn
 unfold nth nthFrom
 cases hf : l.find? (isNth l i) with
 | none =>
  rw [List.find?_eq_none] at hf
  exact absurd hn' (hf _ (hp.mem_iff.1 (List.getElem_mem _)))
 | some y =>
  have := List.find?_some hf
  exact isNth_unique l i _ _ this hn'
open Go.RowKit
def QIsRow (k : IntKind) (w : World) (a : Option Addr) (len cap : Nat) (zs : List Int) : Prop :=
 (a = none ∧ len = 0 ∧ cap = 0 ∧ zs = []) ∨
 ∃ x, a = some x ∧ len ≤ cap ∧ cap ≤ maxLen ∧ zs.length = cap ∧ (∀ i, i < zs.length → w.cell? (x.add i) = some (.int k (zs.getD i 0))) ∧ ∀ n ∈ zs, (Lit.int k n).wf = true
def QRow (w : World) (a : Option Addr) (zs : List Int) : Prop :=
 zs.length ≤ maxLen ∧ (zs = [] ∨ ∃ b off, a = some ⟨b, off, none⟩ ∧ b < w.heap.size ∧ ∀ j, j < zs.length → w.cell? ⟨b, off + j, none⟩ = some (.int .i64 (zs[j]?.getD 0)))
open Sha
set_option maxRecDepth 20000 in
set_option maxHeartbeats 2000000 in
theorem pad_any (ka : Option Addr) (kc : Nat) (key : List Int) (x : Int) (w : World) (hk : RowAt w ka key) (hkl : key.length ≤ 1000000) :
   Calls Tryz.prog 91 #[.slice ka key.length kc, .int .u8 x] w fun e w' => ∃ v, e = .returned v ∧ w'.ownsRow w.heap.size 5 1 v 64 (v8 (xorL x (macBlock key))) ∧ Below w.heap.size w w' := by
  obtain ⟨i0, hi, hz0, hz1, hz2⟩ := info_parts info8
  obtain ⟨kb, HB⟩ : ∃ kb, Hid (macBlock key = kb) := ⟨_, rfl⟩
  have HL : Hid (kb.length = 64) := by show _ = _; rw [← HB.out]; exact macBlock_len key
  rw [HB.out]
  by_cases hlong : 64 < key.length
  · have hlI : (64 : Int) < key.length := by omega
    have ek : macKey key = sha key := by unfold macKey; rw [if_pos hlong]
    have HKB0 : Hid (sha key ++ List.replicate (64 - (sha key).length) 0 = kb) := by show _ = _; rw [← HB.out]; unfold macBlock; rw [ek]
    have c1 := refSum_any ka kc key w hk hkl
    obtain ⟨ks, hks0⟩ : ∃ ks, Hid (sha key = ks) := ⟨_, rfl⟩
    have hkl' : ks.length = 32 := by rw [← hks0.out]; exact sha_length _
    have hko : ∀ z ∈ ks, 0 ≤ z ∧ z < 256 := by rw [← hks0.out]; exact sha_ok _
    rw [hks0.out] at c1 HKB0
    have HKB := HKB0
    clear hks0 ek HKB0 HB
    go_enter Tryz.func91, Tryz.ntmps91
    go_wp2_with fail
    refine c1.mono ?_
    rintro e w0 ⟨rfl, hw0⟩
    clear c1
    go_wp2_with fail
    refine (bytes_any ks w0 hkl').mono ?_
    rintro e w1 ⟨v1, rfl, hown1, hw1⟩
    obtain ⟨ka, kc, rfl, hc1, hc2, hrow⟩ := own_bytes hown1 hko (by rw [hkl']; unfold maxLen; omega)
    have hBw : Below w.heap.size w w1 := hw0.trans (hw1.mono hw0.size)
    clear hown1 hw1 hw0
    have hk32 : ks.length ≤ 64 := by omega
    clear hkl' hk
    have hsz1 : (w1.heap.size : Nat) = w1.heap.size := rfl
    go_wp2_with fail
    go_loopw [5, 6] (fun v i wr => ∃ k : Nat, k ≤ 64 ∧ i = .int .i64 (k : Int) ∧ wr.ownsRow w1.heap.size 5 1 v k (v8 ((xorL x kb).take k)) ∧ Below w1.heap.size w1 wr) (fun _ i _ => 64 - (intOf i).toNat)
    case atStart => exact ⟨0, by omega, rfl, by simpa [v8] using World.ownsRow_nil w1 w1.heap.size 5 1, Below.refl _ _⟩
    case round =>
      obtain ⟨k, hk, rfl, hown, hB⟩ := hrel
      by_cases hlt : k < 64
      · have hsz := hB.size
        obtain ⟨z, hz⟩ : ∃ z, Hid (kb.getD k 0 = z) := ⟨_, rfl⟩
        have HE : Hid (bits .xor .u8 z x = xorB x z) := rfl
        have hown2 := owns_below hown ((Below.refl wr.heap.size wr).alloc (Nat.le_refl _) (.cells #[.int .u8 (xorB x z)] 5))
        have hB2 : Below w1.heap.size w1 (wr.alloc (.cells #[.int .u8 (xorB x z)] 5)) := hB.alloc (by omega) _
        have hsrc2 := byte_src wr (xorB x z)
        have hfin : Hid ((xorL x kb).take (k + 1) = (xorL x kb).take k ++ [xorB x z]) := by
          show _ = _
          have hl : k < (xorL x kb).length := by rw [xorL_len, HL.out]; exact hlt
          have hl' : k < kb.length := by rw [HL.out]; exact hlt
          rw [List.take_succ_eq_append_getElem hl]
          congr 2
          simp only [xorL, List.getElem_map]
          rw [← hz.out, List.getD_eq_getElem?_getD, List.getElem?_eq_getElem hl']; rfl
        rw [← HE.out] at hown2 hB2 hsrc2
        by_cases hks : k < ks.length
        · obtain ⟨b, off, rfl, hbs, hrg⟩ : ∃ b off, ka = some ⟨b, off, none⟩ ∧ b < w1.heap.size ∧ w1.rangeAt b off (v8 ks) := by
            rcases hrow.2.2 with rfl | q
            · simp at hks
            · exact q
          have hc : wr.cell? ⟨b, off + k, none⟩ = some (.int .u8 z) := by
            have := get8 (range_below hrg hB hbs) (i := k) hks
            have e : ks.getD k 0 = z := by
              rw [← hz.out, ← HKB.out, List.getD_eq_getElem?_getD, List.getD_eq_getElem?_getD, List.getElem?_append_left hks]
            rwa [e] at this
          go_wp2_with (at_builtin; refine wpList_append_own_src _ rfl _ _ 57 57 rfl w1.heap.size 5 i0 (.int .u8 0) 1 1 Tryz.underlying57 hi hz0 hz1 hz2 rfl _ k _ rfl hown2 _ 1 _ rfl hsrc2 ?c1 ?c2 ?c3 ?_)
          case c1 => unfold maxLen; omega
          case c2 => omega
          case c3 => simp; omega
          intro v4 w4 hown4 hgr4
          have hB4 := below_grown hB2 (by simp; omega) hown2 hgr4
          clear hown2 hB2 hsrc2 hgr4 hown
          go_wp2_with fail
          go_roundw
          case rel =>
            refine ⟨k + 1, by omega, by go_num, ?_, hB4⟩
            rw [hfin.out, v8_append, ← HE.out]; exact hown4
          case measure => simp [intOf]; omega
        · have hzz : z = 0 := by
            rw [← hz.out, ← HKB.out, List.getD_eq_getElem?_getD, List.getElem?_append_right (by omega), List.getElem?_replicate]
            split <;> rfl
          subst hzz
          go_wp2_with (at_builtin; refine wpList_append_own_src _ rfl _ _ 57 57 rfl w1.heap.size 5 i0 (.int .u8 0) 1 1 Tryz.underlying57 hi hz0 hz1 hz2 rfl _ k _ rfl hown2 _ 1 _ rfl hsrc2 ?e1 ?e2 ?e3 ?_)
          case e1 => unfold maxLen; omega
          case e2 => omega
          case e3 => simp; omega
          intro v4 w4 hown4 hgr4
          have hB4 := below_grown hB2 (by simp; omega) hown2 hgr4
          clear hown2 hB2 hsrc2 hgr4 hown
          go_wp2_with fail
          go_roundw
          case rel =>
            refine ⟨k + 1, by omega, by go_num, ?_, hB4⟩
            rw [hfin.out, v8_append, ← HE.out]; exact hown4
          case measure => simp [intOf]; omega
      · have hk64 : k = 64 := by omega
        subst hk64
        have hall : Hid ((xorL x kb).take 64 = xorL x kb) := by
          show _ = _
          rw [List.take_of_length_le (by rw [xorL_len, HL.out]; omega)]
        rw [hall.out] at hown
        go_wp2
        go_ret
        exact ⟨_, rfl, owns_mono hown hBw.size, hBw.trans (hB.mono hBw.size)⟩
  · have hlI : ¬ (64 : Int) < key.length := by omega
    have ek : macKey key = key := by unfold macKey; rw [if_neg hlong]
    have HKB : Hid (key ++ List.replicate (64 - key.length) 0 = kb) := by show _ = _; rw [← HB.out]; unfold macBlock; rw [ek]
    have hrow := hk
    have hBw := Below.refl w.heap.size w
    clear HB ek
    go_enter Tryz.func91, Tryz.ntmps91
    have hsz1 : (w.heap.size : Nat) = w.heap.size := rfl
    go_wp2_with fail
    go_loopw [5, 6] (fun v i wr => ∃ k : Nat, k ≤ 64 ∧ i = .int .i64 (k : Int) ∧ wr.ownsRow w.heap.size 5 1 v k (v8 ((xorL x kb).take k)) ∧ Below w.heap.size w wr) (fun _ i _ => 64 - (intOf i).toNat)
    case atStart => exact ⟨0, by omega, rfl, by simpa [v8] using World.ownsRow_nil w w.heap.size 5 1, Below.refl _ _⟩
    case round =>
      obtain ⟨k, hk, rfl, hown, hB⟩ := hrel
      by_cases hlt : k < 64
      · have hsz := hB.size
        obtain ⟨z, hz⟩ : ∃ z, Hid (kb.getD k 0 = z) := ⟨_, rfl⟩
        have HE : Hid (bits .xor .u8 z x = xorB x z) := rfl
        have hown2 := owns_below hown ((Below.refl wr.heap.size wr).alloc (Nat.le_refl _) (.cells #[.int .u8 (xorB x z)] 5))
        have hB2 : Below w.heap.size w (wr.alloc (.cells #[.int .u8 (xorB x z)] 5)) := hB.alloc (by omega) _
        have hsrc2 := byte_src wr (xorB x z)
        have hfin : Hid ((xorL x kb).take (k + 1) = (xorL x kb).take k ++ [xorB x z]) := by
          show _ = _
          have hl : k < (xorL x kb).length := by rw [xorL_len, HL.out]; exact hlt
          have hl' : k < kb.length := by rw [HL.out]; exact hlt
          rw [List.take_succ_eq_append_getElem hl]
          congr 2
          simp only [xorL, List.getElem_map]
          rw [← hz.out, List.getD_eq_getElem?_getD, List.getElem?_eq_getElem hl']; rfl
        rw [← HE.out] at hown2 hB2 hsrc2
        by_cases hks : k < key.length
        · obtain ⟨b, off, rfl, hbs, hrg⟩ : ∃ b off, ka = some ⟨b, off, none⟩ ∧ b < w.heap.size ∧ w.rangeAt b off (v8 key) := by
            rcases hrow.2.2 with rfl | q
            · simp at hks
            · exact q
          have hc : wr.cell? ⟨b, off + k, none⟩ = some (.int .u8 z) := by
            have := get8 (range_below hrg hB hbs) (i := k) hks
            have e : key.getD k 0 = z := by
              rw [← hz.out, ← HKB.out, List.getD_eq_getElem?_getD, List.getD_eq_getElem?_getD, List.getElem?_append_left hks]
            rwa [e] at this
          go_wp2_with (at_builtin; refine wpList_append_own_src _ rfl _ _ 57 57 rfl w.heap.size 5 i0 (.int .u8 0) 1 1 Tryz.underlying57 hi hz0 hz1 hz2 rfl _ k _ rfl hown2 _ 1 _ rfl hsrc2 ?f1 ?f2 ?f3 ?_)
          case f1 => unfold maxLen; omega
          case f2 => omega
          case f3 => simp; omega
          intro v4 w4 hown4 hgr4
          have hB4 := below_grown hB2 (by simp; omega) hown2 hgr4
          clear hown2 hB2 hsrc2 hgr4 hown
          go_wp2_with fail
          go_roundw
          case rel =>
            refine ⟨k + 1, by omega, by go_num, ?_, hB4⟩
            rw [hfin.out, v8_append, ← HE.out]; exact hown4
          case measure => simp [intOf]; omega
        · have hzz : z = 0 := by
            rw [← hz.out, ← HKB.out, List.getD_eq_getElem?_getD, List.getElem?_append_right (by omega), List.getElem?_replicate]
            split <;> rfl
          subst hzz
          go_wp2_with (at_builtin; refine wpList_append_own_src _ rfl _ _ 57 57 rfl w.heap.size 5 i0 (.int .u8 0) 1 1 Tryz.underlying57 hi hz0 hz1 hz2 rfl _ k _ rfl hown2 _ 1 _ rfl hsrc2 ?g1 ?g2 ?g3 ?_)
          case g1 => unfold maxLen; omega
          case g2 => omega
          case g3 => simp; omega
          intro v4 w4 hown4 hgr4
          have hB4 := below_grown hB2 (by simp; omega) hown2 hgr4
          clear hown2 hB2 hsrc2 hgr4 hown
          go_wp2_with fail
          go_roundw
          case rel =>
            refine ⟨k + 1, by omega, by go_num, ?_, hB4⟩
            rw [hfin.out, v8_append, ← HE.out]; exact hown4
          case measure => simp [intOf]; omega
      · have hk64 : k = 64 := by omega
        subst hk64
        have hall : Hid ((xorL x kb).take 64 = xorL x kb) := by
          show _ = _
          rw [List.take_of_length_le (by rw [xorL_len, HL.out]; omega)]
        rw [hall.out] at hown
        go_wp2
        go_ret
        exact ⟨_, rfl, owns_mono hown hBw.size, hBw.trans (hB.mono hBw.size)⟩
theorem exec_append {P : Program} {o : Oper} {a : Act} {w w' : World} {s x : Operand} {t tx : TypeId} {v xv v' : Value} (ho : o.op = .call { callee := .builtin .append, args := #[s, x], argTypes := #[t, tx] }) (hv : a.eval s = v) (hx : a.eval x = xv)
    (hr : (Builtin.append_ #[t, tx] o.type #[v, xv]).run P w = .ok v' w') : (execOp a.eval o).run P w = .ok (.value v') w' := by
  unfold execOp
  simp only [ho, resolve, invoke, builtin, Sem.run_bind, Sem.run_pure, Result.andThen_ok, List.map_toArray, List.map_cons, List.map_nil, hv, hx, hr]
theorem append_bytes {w : World} {B : Nat} {v : Value} {zs ys : List Int} {a : Option Addr} {cap : Nat} (ty : TypeId) (hB : B ≤ w.heap.size) (ho : w.ownsRow B 5 1 v zs.length (v8 zs)) (hz : ∀ z ∈ zs, 0 ≤ z ∧ z < 256) (hy : RowAt w a ys) (hl : zs.length + ys.length ≤ 10000000) :
  ∃ a' cap' w', (Builtin.append_ #[57, 57] ty #[v, .slice a ys.length cap]).run Tryz.prog w = .ok (.slice a' (zs ++ ys).length cap') w' ∧ w'.ownsRow B 5 1 (.slice a' (zs ++ ys).length cap') (zs ++ ys).length (v8 (zs ++ ys)) ∧ RowAt w' a' (zs ++ ys) ∧ (zs ++ ys).length ≤ cap' ∧ cap' ≤ maxLen ∧ w.grownBy w' v.ownBlock := by
 obtain ⟨i0, hi, hz0, hz1, hz2⟩ := info_parts info8
 obtain ⟨v', w', hr, hown, hgr⟩ := run_append_own_src (P := Tryz.prog) w B 57 57 ty 5 i0 (.int .u8 0) 1 1 Tryz.underlying57 hi hz0 hz1 hz2 rfl v zs.length (v8 zs) ho (.slice a ys.length cap) ys.length (v8 ys) (hy.src cap) (by unfold maxLen; omega) (by omega) hB
 rw [← v8_append, ← List.length_append] at hown
 obtain ⟨a', cap', rfl, h1, h2, h3⟩ := own_bytes hown (fun z hz' => by
  rcases List.mem_append.1 hz' with q | q
  ·exact hz z q
  ·exact hy.2.1 z q) (by rw [List.length_append]; unfold maxLen; omega)
 exact ⟨a', cap', w', hr, hown, h3, h1, h2, hgr⟩
theorem own_low {w : World} {B : Nat} {e : TypeId} {v : Value} {n : Nat} {xs : List Value} (h : w.ownsRow B e 1 v n xs) : ∀ k, v.ownBlock = some k → B ≤ k := by
 intro k hk
 rcases h.2 with ⟨rfl, _⟩ | ⟨g, cap, cur, rfl, hb, _⟩
 ·simp [Value.ownBlock] at hk
 ·have : g = k := by simpa [Value.ownBlock] using hk
  omega
set_option maxRecDepth 20000 in
set_option maxHeartbeats 2000000 in
theorem refMac_any (ka : Option Addr) (kc : Nat) (key : List Int) (a : Option Addr) (cap : Nat) (zs : List Int) (w : World) (hk : RowAt w ka key) (hkl : key.length ≤ 900000) (h : RowAt w a zs) (hl : zs.length ≤ 900000) :
   Calls Tryz.prog 55 #[.slice ka key.length kc, .slice a zs.length cap] w fun e w' => e = .returned (.agg (v8 (mac key zs)).toArray) ∧ Below w.heap.size w w' := by
  have hB0 : Below w.heap.size w (w.alloc (.cells (Array.replicate 32 (.int .u8 0)) 32)) := (Below.refl _ _).alloc (Nat.le_refl _) _
  have hT0 := (new_bytes w 32 32).2
  have cp := pad_any ka kc key 54 _ (hk.below hB0) (by omega)
  obtain ⟨k1, hk1⟩ : ∃ k1, Hid (xorL 54 (macBlock key) = k1) := ⟨_, rfl⟩
  have hl1 : k1.length = 64 := by rw [← hk1.out, xorL_len]; exact macBlock_len key
  have ho1 : ∀ z ∈ k1, 0 ≤ z ∧ z < 256 := by rw [← hk1.out]; exact xorL_ok _ _
  obtain ⟨k2, hk2⟩ : ∃ k2, Hid (xorL 92 (macBlock key) = k2) := ⟨_, rfl⟩
  have hl2 : k2.length = 64 := by rw [← hk2.out, xorL_len]; exact macBlock_len key
  have ho2 : ∀ z ∈ k2, 0 ≤ z ∧ z < 256 := by rw [← hk2.out]; exact xorL_ok _ _
  have HM : Hid (mac key zs = sha (k2 ++ sha (k1 ++ zs))) := by rw [← hk1.out, ← hk2.out]; rfl
  rw [hk1.out] at cp
  clear hk1
  go_enter Tryz.func55, Tryz.ntmps55
  go_wp2_with fail
  refine cp.mono ?_
  rintro e w1 ⟨v1, rfl, hown1, hw1⟩
  clear cp
  have hB1 := hB0.trans (hw1.mono hB0.size)
  have hs1 := hw1.size
  have hT1 := there_below hT0 hw1 (by simp)
  have hown1' : w1.ownsRow (w.heap.size + 1) 5 1 v1 k1.length (v8 k1) := by rw [hl1]; simpa using hown1
  simp only [World.size_alloc] at hs1
  obtain ⟨i0, hi, hz0, hz1, hz2⟩ := info_parts info8
  have hsrc := (h.below hB1).src cap
  go_wp2_with (at_builtin; refine wpList_append_own_src _ rfl _ _ 57 57 rfl (w.heap.size + 1) 5 i0 (.int .u8 0) 1 1 Tryz.underlying57 hi hz0 hz1 hz2 rfl _ k1.length _ rfl hown1' _ zs.length _ rfl hsrc ?c1 ?c2 ?c3 ?_)
  case c1 => unfold maxLen; omega
  case c2 => omega
  case c3 => omega
  intro v2 w2 hown2 hgr2
  have e12 : 64 + zs.length = (k1 ++ zs).length := by rw [List.length_append, hl1]
  rw [← v8_append, e12] at hown2
  clear e12
  obtain ⟨a2, cap2, rfl, _, _, hrow2⟩ := own_bytes hown2 (fun z hz' => by
    rcases List.mem_append.1 hz' with q | q
    · exact ho1 z q
    · exact h.2.1 z q) (by rw [List.length_append]; unfold maxLen; omega)
  clear hi hz0 hz1 hz2 hsrc
  have hB2a : Below (w.heap.size + 1) w1 w2 := (Below.refl _ _).grown hgr2 (by omega) (own_low hown1')
  have hB2 : Below w.heap.size w w2 := hB1.trans (hB2a.mono (by omega))
  have hT2 := there_below hT1 hB2a (by omega)
  have hs2 := hB2a.size
  have c2 := refSum_any a2 cap2 (k1 ++ zs) w2 hrow2 (by rw [List.length_append]; omega)
  obtain ⟨d, hd⟩ : ∃ d, Hid (sha (k1 ++ zs) = d) := ⟨_, rfl⟩
  have hdl : d.length = 32 := by rw [← hd.out]; exact sha_length _
  have hdo : ∀ z ∈ d, 0 ≤ z ∧ z < 256 := by rw [← hd.out]; exact sha_ok _
  rw [hd.out] at c2 HM
  clear hd hown1 hown1' hown2 hgr2 hrow2
  generalize (k1 ++ zs).length = n2 at *
  go_wp2_with fail
  refine c2.mono ?_
  rintro e w3 ⟨rfl, hw3⟩
  clear c2
  have hB3 := hB2.trans (hw3.mono hB2.size)
  have hT3 := there_below hT2 hw3 (by omega)
  have hs3 := hw3.size
  have F := fresh_store w3 (Array.replicate 32 (.int .u8 0)) 32 (v8 d) (by rw [v8_length, hdl]; rfl)
  have hN := there24 w3 d hdl
  have hi := info24 d hdl
  have h1c := all_oneCell_toArray (v8_one d)
  go_upto_region 2 with (refine wpList_store_mid (op := ⟨none, .store 32 (.tmp 5) (.tmp 10), _, _, _, none⟩) rfl 32 _ _ rfl _ _ (v8 d).toArray rfl rfl hN hi h1c ?_)
  go_name_world w4 hw4
  rw [show (w3.alloc (.cells (Array.replicate 32 (.int .u8 0)) 32)).setCells w3.heap.size 0 (v8 d) = w4 from hw4] at F
  obtain ⟨hR4, hB4', hz4', _⟩ := F
  have hz4 : w3.heap.size < w4.heap.size := by omega
  clear hz4' hw4 hN h1c hw3
  have hB4 := hB3.trans (hB4'.mono hB3.size)
  have hT4 := there_below hT3 hB4' (by omega)
  try simp only [Act.put]
  obtain ⟨I, hI⟩ : ∃ I, w3.heap.size = I := ⟨_, rfl⟩
  rw [hI] at hR4 hz4 ⊢
  have hIl : w.heap.size < I := by omega
  clear hI hB4' hT3 hT2 hT1 hT0 hB3 hB2a hB2 hB1 hB0 hs1 hs2 hs3
  have hi' : (Tryz.prog.info? 32).map (·.size) = some (v8 d).length := by simpa using hi
  go_wp2_with fail
  refine hs_begin (S := (fun W : World => W.rangeAt I 0 (v8 d))) 7 rfl (by kernel_rfl) ?_
  have hS : (fun W : World => W.rangeAt I 0 (v8 d)) w4.drew := (World.rangeAt_drew _ _ _ _).2 hR4
  have hB5 : Below w.heap.size w w4.drew := hB4.drew
  have hT5 : w4.drew.there w.heap.size 0 32 := hT4
  have hz5 : I < w4.drew.heap.size := hz4
  generalize w4.drew = w5 at hS hB5 hT5 hz5 ⊢
  refine hs_t 0 11 (?_) rfl (by kernel_rfl) (by kernel_rfl) (by kernel_rfl) (by rfl) ?_ hS rfl ?_
  rotate_left
  · intro w' hw
    go_simp
    try with_reducible rfl
  simp only [nz]
  refine hs_t 2 13 (.agg (v8 d).toArray) rfl (by kernel_rfl) (by kernel_rfl) (by kernel_rfl) (by rfl) (fun w' hw => exec_load rfl rfl (run_loadVar_mid (P := Tryz.prog) w' I 0 32 (v8 d) _ hw Tryz.underlying32 rfl hi')) hS rfl ?_
  simp only [nz]
  have cp := pad_any ka kc key 92 w5 (hk.below hB5) (by omega)
  rw [hk2.out] at cp
  refine hs_call (i := 1) (d := some 12) rfl (by kernel_rfl) (by rfl) (by go_simp; first | done | exact ⟨rfl, rfl⟩ | with_reducible rfl) rfl ?_
  refine (cp).mono ?_
  rintro e' w6 ⟨v6, rfl, hown6, hw6⟩
  have hS : (fun W : World => W.rangeAt I 0 (v8 d)) w6 := range_below hS hw6 hz5
  refine ⟨_, rfl, hS, ?_⟩
  simp only [nz]
  have hB6 := hB5.trans (hw6.mono hB5.size)
  have hT6 := there_below hT5 hw6 (by omega)
  have hs6 := hw6.size
  clear cp
  refine hs_call (i := 3) (d := some 14) rfl (by kernel_rfl) (by rfl) (by go_simp; first | done | exact ⟨rfl, rfl⟩ | with_reducible rfl) rfl ?_
  refine (bytes_any d w6 hdl).mono ?_
  rintro e' w7 ⟨v7, rfl, hown7, hw7⟩
  have hS : (fun W : World => W.rangeAt I 0 (v8 d)) w7 := range_below hS hw7 (by omega)
  refine ⟨_, rfl, hS, ?_⟩
  simp only [nz]
  have hB7 := hB6.trans (hw7.mono hB6.size)
  have hT7 := there_below hT6 hw7 (by omega)
  have hs7 := hw7.size
  have hown6' : w7.ownsRow w5.heap.size 5 1 v6 k2.length (v8 k2) := by rw [hl2]; exact owns_below hown6 hw7
  obtain ⟨a7, cap7, rfl, _, _, hrow7⟩ := own_bytes hown7 hdo (by rw [hdl]; unfold maxLen; omega)
  obtain ⟨a8, cap8, w8, hr8, hown8, hrow8, _, _, hgr8⟩ := append_bytes (cap := cap7) 57 (by omega) hown6' ho2 hrow7 (by omega)
  have hB8a : Below w5.heap.size w7 w8 := (Below.refl _ _).grown hgr8 (by omega) (own_low hown6')
  have hB8 : Below w.heap.size w w8 := hB7.trans (hB8a.mono hB5.size)
  have hT8 := there_below hT7 hB8a (by omega)
  have hs8 := hB8a.size
  have hS : (fun W : World => W.rangeAt I 0 (v8 d)) w8 := range_below hS hB8a (by omega)
  refine hs_run (i := 4) (d := some 15) (v := .slice a8 (k2 ++ d).length cap8) (w' := w8) rfl (by kernel_rfl) (by rfl) (exec_append rfl rfl rfl hr8) rfl hS ?_
  simp only [nz]
  have c9 := refSum_any a8 cap8 (k2 ++ d) w8 hrow8 (by rw [List.length_append]; omega)
  obtain ⟨m, hm⟩ : ∃ m, Hid (sha (k2 ++ d) = m) := ⟨_, rfl⟩
  have hml : m.length = 32 := by rw [← hm.out]; exact sha_length _
  rw [hm.out] at c9 HM
  clear hr8
  generalize (k2 ++ d).length = n8 at *
  refine hs_call (i := 5) (d := some 16) rfl (by kernel_rfl) (by rfl) (by go_simp; first | done | exact ⟨rfl, rfl⟩ | with_reducible rfl) rfl ?_
  refine (c9).mono ?_
  rintro e' w9 ⟨rfl, hw9⟩
  have hS : (fun W : World => W.rangeAt I 0 (v8 d)) w9 := range_below hS hw9 (by omega)
  refine ⟨_, rfl, hS, ?_⟩
  simp only [nz]
  have hB9 := hB8.trans (hw9.mono hB8.size)
  have hT9 := there_below hT8 hw9 (by omega)
  have hT9' : w9.there w.heap.size 0 (v8 m).toArray.size := by
    have e : (v8 m).toArray.size = 32 := by rw [List.size_toArray, v8_length, hml]
    rw [e]; exact hT9
  have hst := run_storeVar_mid (P := Tryz.prog) w9 w.heap.size 0 32 (v8 m).toArray hT9' (info24 m hml) (all_oneCell_toArray (v8_one m))
  have hSn := World.rangeAt_setCells_apart hS w.heap.size 0 (v8 m) (Or.inl (by omega))
  refine hs_store (i := 6) (w' := w9.setCells w.heap.size 0 (v8 m)) rfl (by kernel_rfl) (by rfl) (exec_store rfl rfl rfl hst) rfl hSn ?_
  refine hs_done (by kernel_rfl) ?_
  have hRr := World.rangeAt_setCells_same w9 w.heap.size 0 (v8 m) (by rw [v8_length, hml]; exact hT9)
  have hBl := below_sets (Nat.le_refl w.heap.size) (v8 m) 0 w9 hB9
  have hrs := run_loadVar_mid (P := Tryz.prog) (w9.setCells w.heap.size 0 (v8 m)) w.heap.size 0 32 (v8 m) _ hRr Tryz.underlying32 rfl (by simpa using info24 m hml)
  go_wp2
  refine bodyPost_ret (v := .agg (v8 m).toArray) (by simp [results, Tryz.results55, asAddr, hrs]) rfl ⟨by rw [HM.out], hBl⟩
end Go.Proofs.YtnfijfnnpbenfaaGreatDoor.Qs
